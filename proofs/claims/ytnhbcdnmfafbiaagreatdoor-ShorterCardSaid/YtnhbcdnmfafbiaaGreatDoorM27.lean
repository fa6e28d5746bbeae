import Derived.Test.YtnhbcdnmfafbiaaGreatDoorM26
set_option linter.unusedVariables false
set_option linter.unusedSimpArgs false
set_option maxHeartbeats 20000000
set_option maxRecDepth 100000
namespace Go.Proofs.YtnhbcdnmfafbiaaGreatDoor
namespace V
open Go.Proofs
structure PrP (m l:Nat) (s:PS):Prop where
 i:PsI s
 m:20*lft s+l<m
structure PrK (m l:Nat) (k:Int) (s:PS):Prop where
 i:PsI s
 m:20*lft s+l<m
 k:(wdA s).k=k
structure PfR (kd c:Int) (s:PS) (x:Int) (s':PS):Prop where
 q:Stq s s'
 o:s'.op=s.op
 st:s'.ps.length+2*lft s'+1<=s.ps.length+2*lft s
 d:(s'.er=0/\∃t,Pa (Dp s) (.fl c.toNat kd (wdA s).k []) (suf s).tail t (suf s')/\x+1=s'.ps.length/\ntl s'.ps=ntl s.ps ++Jan s.ps.length t)\/(s'.er≠0/\∀t r,¬Pa (Dp s) (.fl c.toNat kd (wdA s).k []) (suf s).tail t r)
structure PfP (m:Nat) (kd c:Int) (s:PS):Prop where
 i:PsI s
 m:20*lft s+3<m
 k:(wdA s).k≠0
 d:0<=kd/\kd<=34
 c:0<=c/\c<=3
theorem Pr.ofPf {lv:Lv}{kd c:Int}{s B:PS}{x:Int}(h:PfR kd c s x B) (h0:PsI s) (hk:(wdA s).k≠0) (hy:∀t r,Pa (Dp s) lv (suf s) t r↔Pa (Dp s) (.fl c.toNat kd (wdA s).k []) (suf s).tail t r):Pr lv s x B:=⟨h.q,h.o,fun _=>h.st,fun _=>h.d.elim (fun⟨a,t,b,d⟩=>.inl ⟨a,t,(hy _ _).2 b,d⟩) fun⟨a,b⟩=>.inr ⟨a,fun t r q=>b t r ((hy t r).1 q)⟩⟩
theorem fl0 {d k w:Int}{ws r:List Wd}{t:Te}:Pa d (.fl (0:Int).toNat k w []) ws t r↔r=ws/\t= .n k w 0 [] []:=Pa.iff.trans (by simp only[St1];exact iff_of_eq (if_neg (by simp)))
def cPr (lv:Lv) (s:PS) (p:Prop):Ct:=mkc rI bPS (fun x s'=>Pr lv s x s') p
def JcQ:Cts:=ctp 127 (kA (aC (aP fPS) aN) fun a=>mkc (rR 1) bPS (fun l s'=>Jam 5 fnF a.1 l s') (PsI a.1)) <|ctp 128 (kA (aC (aP fPS) aN) fun a=>mkc (rR 1) bPS (fun l s'=>Jam 6 (tpF (a.1.ns-a.1.op)) a.1 l s') (PsI a.1/\(wdA a.1).k=23)) JcP
theorem Jeo:Good T1 JcQ:=by
 unfold JcQ;refine Good.ad1 (Good.ad1 Jek ?_) ?_
 .rintro a ⟨h,hk⟩;exact JfS h hk
 .rintro a h;exact Jf1 h
def Jar (m:Nat):Cts:=ctp 38 (kA (aC (aP fPS) aN) fun a=>cPr .e a.1 (PrP m 12 a.1)) <|ctp 79 (kA (aC (aP fPS) aN) fun a=>cPr .q a.1 (PrP m 11 a.1)) <|ctp 131 (kA (aC (aP fPS) aN) fun a=>cPr .c a.1 (PrP m 10 a.1)) <|ctp 170 (kA (aC (aP fPS) aN) fun a=>cPr .s a.1 (PrP m 9 a.1)) <|ctp 207 (kA (aC (aP fPS) aN) fun a=>cPr .p a.1 (PrP m 8 a.1)) <|ctp 225 (kA (aC (aP fPS) aN) fun a=>cPr .u a.1 (PrP m 7 a.1)) <|ctp 234 (kA (aC (aP fPS) aN) fun a=>cPr .k a.1 (PrP m 6 a.1)) <|ctp 242 (kA (aC (aP fPS) aN) fun a=>cPr .o a.1 (PrP m 5 a.1)) <|ctp 247 (kA (aC (aP fPS) aN) fun a=>cPr .a a.1 (PrP m 4 a.1)) <|ctp 248 (kA (aC (aP fPS) aN) fun a=>cPr .a a.1 (PrK m 3 23 a.1)) <|ctp 76 (kA (aC (aP fPS) aN) fun a=>cPr .e a.1 (PrK m 11 3 a.1)) <|ctp 77 (kA (aC (aP fPS) aN) fun a=>cPr .e a.1 (PrK m 11 6 a.1)) <|ctp 78 (kA (aC (aP fPS) aN) fun a=>cPr .e a.1 (PrK m 11 9 a.1)) <|ctp 241 (kA (aC (aP fPS) <|aC aI <|aC aI aN) fun a=>mkc rI bPS (fun x s'=>PfR a.2.1 a.2.2.1 a.1 x s') (PfP m a.2.1 a.2.2.1 a.1)) JcQ
theorem Jgq {m:Nat}(g:Good T1 (Jar m)) {s:PS}(h:PrP (m+1) 12 s):Tot T1 (cPr .e s True) 38 [pPS s]:=vF hPy (g) Tryz.func38 (WdP s/\∀(x:Int × Unit),x.1=(wdA s).k->br (decide (x.1=3)) (PrK m 11 3 s/\∀(x:Int × PS),Pr Lv.e s x.1 x.2->Pr Lv.e s x.1 x.2) (br (decide (x.1=6)) (PrK m 11 6 s/\∀(x:Int × PS),Pr Lv.e s x.1 x.2->Pr Lv.e s x.1 x.2) (br (decide (x.1=9)) (PrK m 11 9 s/\∀(x:Int × PS),Pr Lv.e s x.1 x.2->Pr Lv.e s x.1 x.2) (PrP m 11 s/\∀(x:Int × PS),Pr Lv.q s x.1 x.2->Pr Lv.e s x.1 x.2)))) (by kernel_rfl) (by
 have hm:=h.m;have hd:=(Jaf h.i.w).1;refine⟨h.i.w,fun⟨x,_⟩ e=>?_⟩;have e:x=(wdA s).k:=e;subst e;refine⟨fun hb=>⟨⟨h.i,by omega,dt hb⟩,fun _ q=>q⟩,fun h3=>⟨fun hb=>⟨⟨h.i,by omega,dt hb⟩,fun _ q=>q⟩,fun h6=>⟨fun hb=>⟨⟨h.i,by omega,dt hb⟩,fun _ q=>q⟩,fun h9=>⟨⟨h.i,by omega⟩,fun _ q=>q.eq fun t r=>Pa.iff.trans ?_⟩⟩⟩⟩;rw[<-hd]at h3 h6 h9;simp only[St1]
 rw[if_neg (df h3),if_neg (df h6),if_neg (df h9)])
theorem Jgh {m:Nat}(g:Good T1 (Jar m)) {s:PS}(h:PrP (m+1) 11 s):Tot T1 (cPr .q s True) 79 [pPS s]:=vF hPy (g) Tryz.func79 (PrP m 10 s/\∀(x:Int × PS),Pr Lv.c s x.1 x.2->WdP x.2/\∀(x_1:Int × Unit),x_1.1=(wdA x.2).k->br (decide (x_1.1≠26)) (Pr Lv.q s x.1 x.2) (WdP x.2/\∀(x_2:WdS × PS),TkR x.2 x_2.1 x_2.2->PrP m 12 x_2.2/\∀(x_3:Int × PS),Pr Lv.e x_2.2 x_3.1 x_3.2->x_3.2.ps.length<=200000/\∀(x_4:Int × PS),AdQ x_3.2 (Jah 18 x.1 x_2.1 x_3.1) x_4.1 x_4.2->Pr Lv.q s x_4.1 x_4.2)) (by kernel_rfl) (by
 have hm:=h.m;refine⟨⟨h.i,by omega⟩,fun⟨x,s1⟩ p1=>⟨p1.q.i.w,fun⟨y,_⟩ e=>?_⟩⟩
 dsimp only at p1 e ⊢
 subst e;have hd:=(Jaf p1.q.i.w).1;have hn:∀t r,Pa (Dp s) .q (suf s) t r->∃a B,Pa (Dp s) .c (suf s) a B:=fun t r q=>by obtain⟨a,B,p,_⟩:=q.un;exact⟨a,B,p⟩
 refine⟨fun hb=>?_,fun hb=>⟨p1.q.i.w,fun⟨w,s2⟩ ⟨e1,e2⟩=>?_⟩⟩
 .have c:¬hk (suf s1)=26:=by rw[hd];exact dt hb
  exact p1.same hn fun a ha=>Pa.mk ⟨a,_,ha,by rw[if_neg c];exact⟨rfl,rfl⟩⟩
 .have c:hk (suf s1)=26:=hd.trans (Decidable.not_not.1 (df hb))
  dsimp only at e1 e2 ⊢
  subst e1 e2;have nz:(wdA s1).k≠0:=by rw[<-hd,c];omega
  obtain⟨K,z⟩:=p1.q.i.tk nz;have G:=K.l;have E:=p1.q.f;refine⟨⟨K.q.i,by omega⟩,fun⟨y,s3⟩ p2=>?_⟩
  dsimp only at p2 ⊢
  have pn:=p2.q.i.pn;refine⟨by omega,fun⟨v,s4⟩ ⟨e1,e2⟩=>?_⟩
  dsimp only at e1 e2 ⊢
  subst e1 e2;refine Pr.bin h.i p1 nz p2 (by omega) hn fun a ha t r=>Pa.iff.trans ⟨fun⟨a',B,q1,q2⟩=>?_,fun⟨b,q1,q2⟩=>⟨a,_,ha,by rw[if_pos c];exact⟨b,q1,q2.trans (by rw[<-hd,c])⟩⟩⟩;obtain⟨rfl,rfl⟩:=Pa.det ha q1;rw[if_pos c]at q2;obtain⟨b,q3,q4⟩:=q2
  exact⟨b,q3,q4.trans (by rw[<-hd,c])⟩)
theorem Jgv {m:Nat}(g:Good T1 (Jar m)) {s:PS}(h:PrP (m+1) 10 s):Tot T1 (cPr .c s True) 131 [pPS s]:=vF hPy (g) Tryz.func131 (PrP m 9 s/\∀(x:Int × PS),Pr Lv.s s x.1 x.2->WdP x.2/\∀(x_1:Int × Unit),x_1.1=opK (wdA x.2).k->br (decide (x_1.1≠17)) (Pr Lv.c s x.1 x.2) (WdP x.2/\∀(x_2:WdS × PS),TkR x.2 x_2.1 x_2.2->PrP m 9 x_2.2/\∀(x_3:Int × PS),Pr Lv.s x_2.2 x_3.1 x_3.2->x_3.2.ps.length<=200000/\∀(x_4:Int × PS),AdQ x_3.2 (Jah 17 x.1 x_2.1 x_3.1) x_4.1 x_4.2->Pr Lv.c s x_4.1 x_4.2)) (by kernel_rfl) (by
 have hm:=h.m;refine⟨⟨h.i,by omega⟩,fun⟨x,s1⟩ p1=>⟨p1.q.i.w,fun⟨y,_⟩ e=>?_⟩⟩
 dsimp only at p1 e ⊢
 subst e;have hd:=(Jaf p1.q.i.w).1;have hn:∀t r,Pa (Dp s) .c (suf s) t r->∃a B,Pa (Dp s) .s (suf s) a B:=fun t r q=>by obtain⟨a,B,p,_⟩:=q.un;exact⟨a,B,p⟩
 refine⟨fun hb=>?_,fun hb=>⟨p1.q.i.w,fun⟨w,s2⟩ ⟨e1,e2⟩=>?_⟩⟩
 .have c:¬jnJ (hk (suf s1))=true:=by rw[hd];exact fun q=>dt hb ((Jdu _).2 q)
  exact p1.same hn fun a ha=>Pa.mk ⟨a,_,ha,by rw[if_neg c];exact⟨rfl,rfl⟩⟩
 .have c:jnJ (hk (suf s1))=true:=by rw[hd];exact(Jdu _).1 (Decidable.not_not.1 (df hb))
  dsimp only at e1 e2 ⊢
  subst e1 e2;have nz:(wdA s1).k≠0:=by rw[<-hd];exact JbK (.inl c)
  obtain⟨K,z⟩:=p1.q.i.tk nz;have G:=K.l;have E:=p1.q.f;refine⟨⟨K.q.i,by omega⟩,fun⟨y,s3⟩ p2=>?_⟩
  dsimp only at p2 ⊢
  have pn:=p2.q.i.pn;refine⟨by omega,fun⟨v,s4⟩ ⟨e1,e2⟩=>?_⟩
  dsimp only at e1 e2 ⊢
  subst e1 e2;refine Pr.bin h.i p1 nz p2 (by omega) hn fun a ha t r=>Pa.iff.trans ⟨fun⟨a',B,q1,q2⟩=>?_,fun⟨b,q1,q2⟩=>⟨a,_,ha,by rw[if_pos c];exact⟨b,q1,q2.trans (by rw[<-hd])⟩⟩⟩;obtain⟨rfl,rfl⟩:=Pa.det ha q1;rw[if_pos c]at q2;obtain⟨b,q3,q4⟩:=q2
  exact⟨b,q3,q4.trans (by rw[<-hd])⟩)
def lpT:Rl Av:=.cons 0 (tA 0) <| .cons 3 tI .nil
def lpRt:Rl Rt:=.cons 0 (rX 0 fPS) .nil
def lpH (lv:Lv) (l:Te->Lv) (s:PS):Hy:=⟨hPS,[],[],[(2,.iv lpT lpRt (fun q=>LpI lv l s q.2.1 q.1.2.1) fun q=>lft q.2.1)]⟩
theorem Jgg {m:Nat}(g:Good T1 (Jar m)) {s:PS}(h:PrP (m+1) 9 s):Tot T1 (cPr .s s True) 170 [pPS s]:=vF (lpH .s .sl s) (g) Tryz.func170 (PrP m 8 s/\∀(x:Int × PS),Pr Lv.p s x.1 x.2->LpI Lv.s Lv.sl s x.2 x.1/\∀(a:(Unit × Int × Unit) × PS × Unit),LpI Lv.s Lv.sl s a.2.1 a.1.2.1->WdP a.2.1/\∀(x:Int × Unit),x.1=opK (wdA a.2.1).k->br (decide (x.1=16)) (WdP a.2.1/\∀(x:WdS × PS),TkR a.2.1 x.1 x.2->PrP m 8 x.2/\∀(x_1:Int × PS),Pr Lv.p x.2 x_1.1 x_1.2->x_1.2.ps.length<=200000/\∀(x_2:Int × PS),AdQ x_1.2 (Jah 16 a.1.2.1 x.1 x_1.1) x_2.1 x_2.2->LpI Lv.s Lv.sl s x_2.2 x_2.1/\lft x_2.2<lft a.2.1) (Pr Lv.s s a.1.2.1 a.2.1)) (by kernel_rfl) (by
 have hm:=h.m;refine⟨⟨h.i,by omega⟩,fun⟨x,s1⟩ p1=>⟨LpI.of p1 fun t r=>Pa.iff,fun⟨⟨_,x,_⟩,s1,_⟩ p1=>⟨p1.q.i.w,fun⟨y,_⟩ e=>?_⟩⟩⟩
 dsimp only at p1 e ⊢
 subst e;have hd:=(Jaf p1.q.i.w).1;refine⟨fun hb=>⟨p1.q.i.w,fun⟨w,s2⟩ ⟨e1,e2⟩=>?_⟩,fun hb=>p1.end fun a t r=>Pa.iff.trans ?_⟩
 .have c:=(Jds _).1 (dt hb)
  dsimp only at e1 e2 ⊢
  subst e1 e2;have nz:=JbK (.inr <| .inl c);obtain⟨K,z⟩:=p1.q.i.tk nz;have E:=K.l;have B:=p1.q.f;refine⟨⟨K.q.i,by omega⟩,fun⟨y,s3⟩ p2=>?_⟩
  dsimp only at p2 ⊢
  have pn:=p2.q.i.pn;refine⟨by omega,fun⟨v,s4⟩ ⟨e1,e2⟩=>?_⟩
  dsimp only at e1 e2 ⊢
  subst e1 e2;refine LpI.next h.i p1 nz p2 (by omega) fun a t r=>Pa.iff.trans ?_;simp only[St1];rw[hd,if_pos c]
 .have c:¬jm6 (hk (suf s1))=true:=by rw[hd];exact fun q=>df hb ((Jds _).2 q)
  simp only[St1]
  rw[if_neg c])
theorem Jgj {m:Nat}(g:Good T1 (Jar m)) {s:PS}(h:PrP (m+1) 8 s):Tot T1 (cPr .p s True) 207 [pPS s]:=vF (lpH .p .pl s) (g) Tryz.func207 (PrP m 7 s/\∀(x:Int × PS),Pr Lv.u s x.1 x.2->LpI Lv.p Lv.pl s x.2 x.1/\∀(a:(Unit × Int × Unit) × PS × Unit),LpI Lv.p Lv.pl s a.2.1 a.1.2.1->WdP a.2.1/\∀(x:Int × Unit),x.1=opK (wdA a.2.1).k->br (decide (x.1=15)) (WdP a.2.1/\∀(x:WdS × PS),TkR a.2.1 x.1 x.2->PrP m 7 x.2/\∀(x_1:Int × PS),Pr Lv.u x.2 x_1.1 x_1.2->x_1.2.ps.length<=200000/\∀(x_2:Int × PS),AdQ x_1.2 (Jah 15 a.1.2.1 x.1 x_1.1) x_2.1 x_2.2->LpI Lv.p Lv.pl s x_2.2 x_2.1/\lft x_2.2<lft a.2.1) (Pr Lv.p s a.1.2.1 a.2.1)) (by kernel_rfl) (by
 have hm:=h.m;refine⟨⟨h.i,by omega⟩,fun⟨x,s1⟩ p1=>⟨LpI.of p1 fun t r=>Pa.iff,fun⟨⟨_,x,_⟩,s1,_⟩ p1=>⟨p1.q.i.w,fun⟨y,_⟩ e=>?_⟩⟩⟩
 dsimp only at p1 e ⊢
 subst e;have hd:=(Jaf p1.q.i.w).1;refine⟨fun hb=>⟨p1.q.i.w,fun⟨w,s2⟩ ⟨e1,e2⟩=>?_⟩,fun hb=>p1.end fun a t r=>Pa.iff.trans ?_⟩
 .have c:=(Jdt _).1 (dt hb)
  dsimp only at e1 e2 ⊢
  subst e1 e2;have nz:=JbK (.inr <| .inr <| .inl c);obtain⟨K,z⟩:=p1.q.i.tk nz;have E:=K.l;have B:=p1.q.f;refine⟨⟨K.q.i,by omega⟩,fun⟨y,s3⟩ p2=>?_⟩
  dsimp only at p2 ⊢
  have pn:=p2.q.i.pn;refine⟨by omega,fun⟨v,s4⟩ ⟨e1,e2⟩=>?_⟩
  dsimp only at e1 e2 ⊢
  subst e1 e2;refine LpI.next h.i p1 nz p2 (by omega) fun a t r=>Pa.iff.trans ?_;simp only[St1];rw[hd,if_pos c]
 .have c:¬Jal (hk (suf s1))=true:=by rw[hd];exact fun q=>df hb ((Jdt _).2 q)
  simp only[St1]
  rw[if_neg c])
theorem Jge {m:Nat}(g:Good T1 (Jar m)) {s:PS}(h:PrP (m+1) 7 s):Tot T1 (cPr .u s True) 225 [pPS s]:=vF (⟨hPS,[25],[],[]⟩) (g) Tryz.func225 (WdP s/\∀(x:Int × Unit),x.1=(wdA s).k->br (decide (x.1=31)) (WdP s/\∀(x:WdS × PS),TkR s x.1 x.2->PrP m 7 x.2/\∀(x_1:Int × PS),Pr Lv.u x.2 x_1.1 x_1.2->x_1.2.ps.length<=200000/\∀(x_2:Int × PS),AdQ x_1.2 {k:=13,a:=x.1.a,w:=x.1.k,n:=0,m:=[],s:=[[I x_1.1]]} x_2.1 x_2.2->Pr Lv.u s x_2.1 x_2.2) (br (decide (x.1=10)) (WdP s/\∀(x:WdS × PS),TkR s x.1 x.2->PrP m 7 x.2/\∀(x_1:Int × PS),Pr Lv.u x.2 x_1.1 x_1.2->x_1.2.ps.length<=200000/\∀(x_2:Int × PS),AdQ x_1.2 {k:=14,a:=x.1.a,w:=x.1.k,n:=0,m:=[],s:=[[I x_1.1]]} x_2.1 x_2.2->Pr Lv.u s x_2.1 x_2.2) (PrP m 6 s/\∀(x:Int × PS),Pr Lv.k s x.1 x.2->Pr Lv.u s x.1 x.2))) (by kernel_rfl) (by
 have hm:=h.m;have hd:=(Jaf h.i.w).1;refine⟨h.i.w,fun⟨x,_⟩ e=>?_⟩;have e:x=(wdA s).k:=e;subst e;refine⟨fun hb=>⟨h.i.w,fun⟨w,s1⟩ ⟨e1,e2⟩=>?_⟩,fun h3=>⟨fun hb=>⟨h.i.w,fun⟨w,s1⟩ ⟨e1,e2⟩=>?_⟩,fun h6=>⟨⟨h.i,by omega⟩,fun _ q=>q.eq fun t r=>Pa.iff.trans ?_⟩⟩⟩
 .dsimp only at e1 e2 ⊢
  subst e1 e2;have c:(wdA s).k=31:=dt hb;have nz:(wdA s).k≠0:=by rw[c];omega
  obtain⟨K,z⟩:=h.i.tk nz;have B:=K.l;refine⟨⟨K.q.i,by omega⟩,fun⟨y,s2⟩ p2=>?_⟩
  dsimp only at p2 ⊢
  have pn:=p2.q.i.pn;refine⟨by omega,fun⟨v,s4⟩ ⟨e1,e2⟩=>?_⟩
  dsimp only at e1 e2 ⊢
  subst e1 e2;have A:=KlI.take (lv:=.u) (R:=fun ts ws t r=>∃b,Pa (Dp s) .u ws b r/\t= .n 13 31 0 [] (ts ++[b])) h.i nz fun t r=>Pa.iff.trans (by simp only[St1];rw[hd,c];exact iff_of_eq (if_pos rfl))
  have A:=A.next (c':=2) (R':=fun ts ws t r=>t= .n 13 31 0 [] ts/\r=ws) (Stq.refl K.q.i) rfl rfl rfl p2 (.inl (Nat.le_refl _)) fun ts _ t r=>⟨fun⟨b,q1,q2⟩=>⟨b,r,q1,q2,rfl⟩,fun⟨b,r1,q1,q2,q3⟩=>⟨b,by rw[q3];exact q1,q2⟩⟩
  exact A.node h.i (Nat.le_refl _) (x:=⟨13,_,(wdA s).k,0,[],[[I y]]⟩) (by dsimp only;omega) (by dsimp only;omega) Rw.nil (by simp) rfl (by simp) (fun _=>⟨[],rfl⟩) fun ts t r _=>⟨fun q=>⟨[],rfl,by rw[c];exact q.1,q.2⟩,fun⟨ns,q1,q2,q3⟩=>⟨by rw[q2,c,show ns=[] from JaW (b:=[]) q1],q3⟩⟩
 .dsimp only at e1 e2 ⊢
  subst e1 e2;have c:(wdA s).k=10:=dt hb;have nz:(wdA s).k≠0:=by rw[c];omega
  obtain⟨K,z⟩:=h.i.tk nz;have B:=K.l;refine⟨⟨K.q.i,by omega⟩,fun⟨y,s2⟩ p2=>?_⟩
  dsimp only at p2 ⊢
  have pn:=p2.q.i.pn;refine⟨by omega,fun⟨v,s4⟩ ⟨e1,e2⟩=>?_⟩
  dsimp only at e1 e2 ⊢
  subst e1 e2;have A:=KlI.take (lv:=.u) (R:=fun ts ws t r=>∃b,Pa (Dp s) .u ws b r/\t= .n 14 10 0 [] (ts ++[b])) h.i nz fun t r=>Pa.iff.trans (by simp only[St1];rw[hd,c];exact iff_of_eq ((if_neg (by decide)).trans (if_pos rfl)))
  have A:=A.next (c':=2) (R':=fun ts ws t r=>t= .n 14 10 0 [] ts/\r=ws) (Stq.refl K.q.i) rfl rfl rfl p2 (.inl (Nat.le_refl _)) fun ts _ t r=>⟨fun⟨b,q1,q2⟩=>⟨b,r,q1,q2,rfl⟩,fun⟨b,r1,q1,q2,q3⟩=>⟨b,by rw[q3];exact q1,q2⟩⟩
  exact A.node h.i (Nat.le_refl _) (x:=⟨14,_,(wdA s).k,0,[],[[I y]]⟩) (by dsimp only;omega) (by dsimp only;omega) Rw.nil (by simp) rfl (by simp) (fun _=>⟨[],rfl⟩) fun ts t r _=>⟨fun q=>⟨[],rfl,by rw[c];exact q.1,q.2⟩,fun⟨ns,q1,q2,q3⟩=>⟨by rw[q2,c,show ns=[] from JaW (b:=[]) q1],q3⟩⟩
 .rw[<-hd]at h3 h6
  simp only[St1]
  rw[if_neg (df h3),if_neg (df h6)])
theorem Jgk {m:Nat}(g:Good T1 (Jar m)) {s:PS}(h:PrP (m+1) 5 s):Tot T1 (cPr .o s True) 242 [pPS s]:=vF (lpH .o .ol s) (g) Tryz.func242 (PrP m 4 s/\∀(x:Int × PS),Pr Lv.a s x.1 x.2->LpI Lv.o Lv.ol s x.2 x.1/\∀(a:(Unit × Int × Unit) × PS × Unit),LpI Lv.o Lv.ol s a.2.1 a.1.2.1->WdP a.2.1/\∀(x:Int × Unit),x.1=(wdA a.2.1).k->br (decide (x.1=18)) (BgP a.2.1 18/\∀(x:WdS × PS),JaV a.2.1 x.1 x.2->PrP m 12 x.2/\∀(x_1:Int × PS),Pr Lv.e x.2 x_1.1 x_1.2->(WdP x_1.2/\0<=x_1.2.op/\x_1.2.op<=1000)/\∀(x_2:Unit × PS),JaE x_1.2 x_2.2->x_2.2.ps.length<=200000/\∀(x_3:Int × PS),AdQ x_2.2 (Jah 20 a.1.2.1 x.1 x_1.1) x_3.1 x_3.2->LpI Lv.o Lv.ol s x_3.2 x_3.1/\lft x_3.2<lft a.2.1) (Pr Lv.o s a.1.2.1 a.2.1)) (by kernel_rfl) (by
 have hm:=h.m;refine⟨⟨h.i,by omega⟩,fun⟨x,s1⟩ p1=>⟨LpI.of p1 fun t r=>Pa.iff,fun⟨⟨_,x,_⟩,s1,_⟩ p1=>⟨p1.q.i.w,fun⟨y,_⟩ e=>?_⟩⟩⟩
 dsimp only at p1 e ⊢
 subst e;have hd:=(Jaf p1.q.i.w).1;refine⟨fun hb=>?_,fun hb=>p1.end fun a t r=>Pa.iff.trans ?_⟩
 .have c:=dt hb
  have op:=p1.q.i.op;have ns:=p1.q.i.ns;have B:=p1.q.i.bg (by rw[c];omega);refine⟨⟨p1.q.i.w,c,by omega⟩,fun⟨w,s2⟩ ⟨e1,e2⟩=>?_⟩
  dsimp only at e1 e2 ⊢
  subst e2;have E:0<Dp s1->w.k=18:=fun q=>by rw[e1,(B.y q).2.2,c]
  clear e1;generalize avS {bgB s1 with op:=s1.op+1}=s2 at B ⊢;have J:=p1.q.f;have M:=B.l;refine⟨⟨B.q.i,by omega⟩,fun⟨y,s3⟩ p2=>?_⟩
  dsimp only at p2 ⊢
  have G:s3.op=s1.op+1:=p2.o.trans B.o;have F:=p2.q.i.fn (by rw[G];omega);refine⟨⟨p2.q.i.w,by omega,by omega⟩,fun⟨_,s4⟩ ⟨e2⟩=>?_⟩
  dsimp only at e2 ⊢
  subst e2;generalize ({avS (wnB s3 24)with op:=s3.op-1}:PS)=s4 at F ⊢;have pn:=F.q.i.pn;refine⟨by omega,fun⟨v,s5⟩ ⟨e1,e2⟩=>?_⟩
  dsimp only at e1 e2 ⊢
  subst e1 e2;exact LpI.idx h.i p1 (hd.trans c) B p2 F E
 .have c:¬hk (suf s1)=18:=by rw[hd];exact df hb
  simp only[St1]
  rw[if_neg c])
theorem Jgz {m:Nat}(g:Good T1 (Jar m)) {s:PS}(h:PrP (m+1) 4 s):Tot T1 (cPr .a s True) 247 [pPS s]:=vF (⟨hPS,[27],[],[]⟩) (g) Tryz.func247 (WdP s/\∀(x:Int × Unit),x.1=(wdA s).k->br (decide (x.1=1)) (WdP s/\∀(x:WdS × PS),TkR s x.1 x.2->x.2.ps.length<=200000/\∀(x_1:Int × PS),AdQ x.2 {k:=1,a:=x.1.a,w:=0,n:=x.1.n,m:=[],s:=[]} x_1.1 x_1.2->Pr Lv.a s x_1.1 x_1.2) (br (decide (x.1=2)) (WdP s/\∀(x:WdS × PS),TkR s x.1 x.2->x.2.ps.length<=200000/\∀(x_1:Int × PS),AdQ x.2 {k:=5,a:=x.1.a,w:=0,n:=0,m:=[[C.s x.1.s]],s:=[]} x_1.1 x_1.2->Pr Lv.a s x_1.1 x_1.2) (br (decide (x.1=11)) (PfP m 2 0 s/\∀(x:Int × PS),PfR 2 0 s x.1 x.2->Pr Lv.a s x.1 x.2) (br (decide (x.1=12)) (PfP m 3 0 s/\∀(x:Int × PS),PfR 3 0 s x.1 x.2->Pr Lv.a s x.1 x.2) (br (decide (x.1=13)) (PfP m 4 0 s/\∀(x:Int × PS),PfR 4 0 s x.1 x.2->Pr Lv.a s x.1 x.2) (br (decide (x.1=23)) (PrK m 3 23 s/\∀(x:Int × PS),Pr Lv.a s x.1 x.2->Pr Lv.a s x.1 x.2) (WdP s/\∀(x:Unit × PS),FlR s 4 x.2->Pr Lv.a s ((-1)) x.2))))))) (by kernel_rfl) (by
 have hm:=h.m;have hd:=(Jaf h.i.w).1;refine⟨h.i.w,fun⟨x,_⟩ e=>?_⟩;have e:x=(wdA s).k:=e;subst e
 dsimp only
 refine⟨fun h1=>⟨h.i.w,fun⟨w,s1⟩ ⟨e1,e2⟩=>?_⟩,fun h1=>⟨fun h2=>⟨h.i.w,fun⟨w,s1⟩ ⟨e1,e2⟩=>?_⟩,fun h2=>⟨fun h3=>?_,fun h3=>⟨fun h4=>?_,fun h4=>⟨fun h5=>?_,fun h5=>⟨fun h6=>⟨⟨h.i,by omega,dt h6⟩,fun _ q=>q⟩,fun h6=>⟨h.i.w,fun⟨_,s1⟩ ⟨e1⟩=>?_⟩⟩⟩⟩⟩⟩⟩
 .have c:=dt h1
  have B:(wdA s).k≠0:=by rw[c];omega
  dsimp only at e1 e2 ⊢
  subst e1 e2;obtain⟨K,z⟩:=h.i.tk B;have pn:=K.q.i.pn;refine⟨by omega,fun⟨v,s4⟩ ⟨e1,e2⟩=>?_⟩
  dsimp only at e1 e2 ⊢
  subst e1 e2;have A:=KlI.take (lv:=.a) (R:=fun ts ws t r=>t= .n 1 0 (wdA s).n [] ts/\r=ws) h.i B fun t r=>Pa.iff.trans (by simp only[St1,JaC];rw[hd,c,(Jaf h.i.w).2.1];exact(iff_of_eq (if_pos rfl)).trans and_comm);exact A.node h.i (Nat.le_refl _) (x:=⟨1,_,0,(wdA s).n,[],[]⟩) (by dsimp only;omega) K.w.n Rw.nil (by simp) rfl (by simp) (fun _=>⟨[],rfl⟩) fun ts t r _=>Jbk
 .have c:=dt h2
  have B:(wdA s).k≠0:=by rw[c];omega
  dsimp only at e1 e2 ⊢
  subst e1 e2;obtain⟨K,z⟩:=h.i.tk B;have pn:=K.q.i.pn;refine⟨by omega,fun⟨v,s4⟩ ⟨e1,e2⟩=>?_⟩
  dsimp only at e1 e2 ⊢
  subst e1 e2;have A:=KlI.take (lv:=.a) (R:=fun ts ws t r=>t= .n 5 0 0 [(wdA s).s] ts/\r=ws) h.i B fun t r=>Pa.iff.trans (by simp only[St1,JaC];rw[hd,c,(Jaf h.i.w).2.2];exact(iff_of_eq ((if_neg (by decide)).trans (if_pos rfl))).trans and_comm)
  exact A.node h.i (Nat.le_refl _) (x:=⟨5,_,0,0,[[C.s (wdA s).s]],[]⟩) (by dsimp only;omega) (by dsimp only;omega) (Rw.one (S:=fSt) trivial) (by simp) rfl (by simp) (fun _=>⟨[(wdA s).s],rfl⟩) fun ts t r _=>⟨fun q=>⟨_,rfl,q⟩,fun⟨ns,q1,q2⟩=>by rw[show ns=[(wdA s).s] from JaW (b:=[_]) q1]at q2;exact q2⟩
 .have c:=dt h3
  have B:(wdA s).k≠0:=by rw[c];omega
  exact⟨⟨h.i,by omega,B,by omega,by omega⟩,fun⟨x,s1⟩ q=>Pr.ofPf q h.i B fun t r=>Pa.iff.trans (by simp only[St1,JaC];rw[hd,c];exact(iff_of_eq ((if_neg (by decide)).trans <|(if_neg (by decide)).trans <|if_pos rfl)).trans fl0.symm)⟩
 .have c:=dt h4
  have B:(wdA s).k≠0:=by rw[c];omega
  exact⟨⟨h.i,by omega,B,by omega,by omega⟩,fun⟨x,s1⟩ q=>Pr.ofPf q h.i B fun t r=>Pa.iff.trans (by simp only[St1,JaC];rw[hd,c];exact(iff_of_eq ((if_neg (by decide)).trans <|(if_neg (by decide)).trans <|(if_neg (by decide)).trans <|if_pos rfl)).trans fl0.symm)⟩
 .have c:=dt h5
  have B:(wdA s).k≠0:=by rw[c];omega
  exact⟨⟨h.i,by omega,B,by omega,by omega⟩,fun⟨x,s1⟩ q=>Pr.ofPf q h.i B fun t r=>Pa.iff.trans (by simp only[St1,JaC];rw[hd,c];exact(iff_of_eq ((if_neg (by decide)).trans <|(if_neg (by decide)).trans <|(if_neg (by decide)).trans <|(if_neg (by decide)).trans <|if_pos rfl)).trans fl0.symm)⟩
 .dsimp only at e1 ⊢
  subst e1;obtain⟨a,b⟩:=h.i.fl (e:=4) (by omega);have E:=JgM s 4;refine⟨⟨a,rfl,rfl,fun _=>b,by rw[E];show s.ps.length+0<=_;omega,by omega⟩,rfl,fun hl=>by rw[E];show s.ps.length+0+1<=_;omega,fun _=>.inr ⟨b,fun t r q=>?_⟩⟩;have q:=q.un;simp only[St1,JaC]at q;rw[hd,if_neg (df h1),if_neg (df h2),if_neg (df h3),if_neg (df h4),if_neg (df h5),if_neg (df h6)]at q
  exact q)
theorem Jgn {m:Nat}(g:Good T1 (Jar m)) {s:PS}(h:PrK (m+1) 11 6 s):Tot T1 (cPr .e s True) 77 [pPS s]:=vF (⟨hPS,[27],[],[]⟩) (g) Tryz.func77 (WdP s/\∀(x:WdS × PS),TkR s x.1 x.2->PrP m 12 x.2/\∀(x_1:Int × PS),Pr Lv.e x.2 x_1.1 x_1.2->WdP x_1.2/\∀(x_2:WdS × PS),TkR (wnB x_1.2 7) x_2.1 x_2.2->PrP m 12 x_2.2/\∀(x_3:Int × PS),Pr Lv.e x_2.2 x_3.1 x_3.2->WdP x_3.2/\∀(x_4:WdS × PS),TkR (wnB x_3.2 8) x_4.1 x_4.2->PrP m 12 x_4.2/\∀(x_5:Int × PS),Pr Lv.e x_4.2 x_5.1 x_5.2->x_5.2.ps.length<=200000/\∀(x_6:Int × PS),AdQ x_5.2 {k:=11,a:=x.1.a,w:=x.1.k,n:=0,m:=[],s:=[[I x_1.1],[I x_3.1],[I x_5.1]]} x_6.1 x_6.2->Pr Lv.e s x_6.1 x_6.2) (by kernel_rfl) (by
 obtain⟨hi,hm,c⟩:=h;have hd:=(Jaf hi.w).1;have nz:(wdA s).k≠0:=by rw[c];omega
 refine⟨hi.w,fun⟨w,s1⟩ ⟨e1,e2⟩=>?_⟩
 dsimp only at e1 e2 ⊢
 subst e1 e2;have A:=KlI.take (lv:=.e) (R:=fun ts ws t r=>∃a r1,Pa (Dp s) .e ws a r1/\hk r1=7/\∃b r2,Pa (Dp s) .e r1.tail b r2/\hk r2=8/\∃e,Pa (Dp s) .e r2.tail e r/\t= .n 11 6 0 [] (ts ++[a] ++[b] ++[e])) hi nz fun t r=>Pa.iff.trans (by simp only[St1];rw[hd,c];exact iff_of_eq ((if_neg (by decide)).trans (if_pos rfl)));obtain⟨K,z⟩:=hi.tk nz;have P:=K.l;refine⟨⟨K.q.i,by omega⟩,fun⟨x1,s2⟩ p1=>?_⟩
 dsimp only at p1 ⊢
 have A:=A.next (c':=2) (R':=fun ts ws t r=>hk ws=7/\∃b r2,Pa (Dp s) .e ws.tail b r2/\hk r2=8/\∃e,Pa (Dp s) .e r2.tail e r/\t= .n 11 6 0 [] (ts ++[b] ++[e])) (Stq.refl K.q.i) rfl rfl rfl p1 (.inl (Nat.le_refl _)) fun ts _ t r=>Iff.rfl;have B:=p1.q.i.wt (k:=7) (by omega);have G:=p1.q.f;refine⟨p1.q.i.w,fun⟨w,s3⟩ ⟨e1,e2⟩=>?_⟩
 dsimp only at e2 ⊢
 subst e2;have A:=A.want B (R':=fun ts ws t r=>∃b r2,Pa (Dp s) .e ws b r2/\hk r2=8/\∃e,Pa (Dp s) .e r2.tail e r/\t= .n 11 6 0 [] (ts ++[b] ++[e])) fun ts t r=>Iff.rfl;generalize avS (wnB s2 7)=s3 at A B ⊢;have J:=B.q.f;refine⟨⟨B.q.i,by omega⟩,fun⟨x2,s4⟩ p2=>?_⟩
 dsimp only at p2 ⊢
 have A:=A.next (c':=2) (R':=fun ts ws t r=>hk ws=8/\∃e,Pa (Dp s) .e ws.tail e r/\t= .n 11 6 0 [] (ts ++[e])) (Stq.refl B.q.i) rfl rfl rfl p2 (.inl (Nat.le_refl _)) fun ts _ t r=>Iff.rfl;have E:=p2.q.i.wt (k:=8) (by omega);have M:=p2.q.f;refine⟨p2.q.i.w,fun⟨w,s5⟩ ⟨e1,e2⟩=>?_⟩
 dsimp only at e2 ⊢
 subst e2;have A:=A.want E (R':=fun ts ws t r=>∃e,Pa (Dp s) .e ws e r/\t= .n 11 6 0 [] (ts ++[e])) fun ts t r=>Iff.rfl;generalize avS (wnB s4 8)=s5 at A E ⊢;have O:=E.q.f;refine⟨⟨E.q.i,by omega⟩,fun⟨x3,s6⟩ p3=>?_⟩
 dsimp only at p3 ⊢
 have A:=A.next (c':=2) (R':=fun ts ws t r=>t= .n 11 6 0 [] ts/\r=ws) (Stq.refl E.q.i) rfl rfl rfl p3 (.inl (Nat.le_refl _)) fun ts _ t r=>JgS _;have pn:=p3.q.i.pn;refine⟨by omega,fun⟨v,s7⟩ ⟨e1,e2⟩=>?_⟩
 dsimp only at e1 e2 ⊢
 subst e1 e2
 exact A.node hi (Nat.le_refl _) (x:=⟨11,_,(wdA s).k,0,[],_⟩) (by dsimp only;omega) (by dsimp only;omega) Rw.nil (by simp) rfl (by simp) (fun _=>⟨[],rfl⟩) fun ts t r _=>by rw[c];exact Jbk)
theorem Jgp {m:Nat}(g:Good T1 (Jar m)) {s:PS}(h:PrK (m+1) 11 9 s):Tot T1 (cPr .e s True) 78 [pPS s]:=vF (⟨hPS,[21],[],[]⟩) (g) Tryz.func78 (WdP s/\∀(x:WdS × PS),TkR s x.1 x.2->PsI x.2/\∀(x_1:List (List C) × PS),Jam 4 prF x.2 x_1.1 x_1.2->WdP x_1.2/\∀(x_2:WdS × PS),TkR (wnB x_1.2 22) x_2.1 x_2.2->PrP m 12 x_2.2/\∀(x_3:Int × PS),Pr Lv.e x_2.2 x_3.1 x_3.2->x_3.2.ps.length<=200000/\∀(x_4:Int × PS),AdQ x_3.2 {k:=12,a:=x.1.a,w:=x.1.k,n:=0,m:=x_1.1,s:=[[I x_3.1]]} x_4.1 x_4.2->Pr Lv.e s x_4.1 x_4.2) (by kernel_rfl) (by
 obtain⟨hi,hm,c⟩:=h;have hd:=(Jaf hi.w).1;have nz:(wdA s).k≠0:=by rw[c];omega
 refine⟨hi.w,fun⟨w,s1⟩ ⟨e1,e2⟩=>?_⟩
 dsimp only at e1 e2 ⊢
 subst e1 e2;have A:=KlI.take (lv:=.e) (R:=fun ts ws t r=>∃ns r0,prF ws=some (ns,r0)/\hk r0=22/\∃a,Pa (Dp s) .e r0.tail a r/\t= .n 12 9 0 ns (ts ++[a])) hi nz fun t r=>Pa.iff.trans (by simp only[St1];rw[hd,c];exact iff_of_eq ((if_neg (by decide)).trans ((if_neg (by decide)).trans (if_pos rfl))));obtain⟨K,z⟩:=hi.tk nz;have J:=K.l;refine⟨K.q.i,fun⟨l,s2⟩ N=>?_⟩
 dsimp only at N ⊢
 have A:=A.nms N (R':=fun ns ts ws t r=>hk ws=22/\∃a,Pa (Dp s) .e ws.tail a r/\t= .n 12 9 0 ns (ts ++[a])) fun ts t r=>Iff.rfl;have B:=N.q.i.wt (k:=22) (by omega);have E:=N.q.f;refine⟨N.q.i.w,fun⟨w,s3⟩ ⟨e1,e2⟩=>?_⟩
 dsimp only at e2 ⊢
 subst e2;have A:=A.want B (R':=fun ts ws t r=>∃ns,nmC ns=l/\∃a,Pa (Dp s) .e ws a r/\t= .n 12 9 0 ns (ts ++[a])) fun ts t r=>Jcy;generalize avS (wnB s2 22)=s3 at A B ⊢;have G:=B.q.f;refine⟨⟨B.q.i,by omega⟩,fun⟨x2,s4⟩ p2=>?_⟩
 dsimp only at p2 ⊢
 have A:=A.next (c':=2) (R':=fun ts ws t r=>∃ns,nmC ns=l/\t= .n 12 9 0 ns ts/\r=ws) (Stq.refl B.q.i) rfl rfl rfl p2 (.inl (Nat.le_refl _)) fun ts _ t r=>last2;have pn:=p2.q.i.pn;refine⟨by omega,fun⟨v,s5⟩ ⟨e1,e2⟩=>?_⟩
 dsimp only at e1 e2 ⊢
 subst e1 e2;have M:=N.n
 exact A.node hi (Nat.le_refl _) (x:=⟨12,_,(wdA s).k,0,l,_⟩) (by dsimp only;omega) (by dsimp only;omega) N.r (by dsimp only;omega) rfl (by simp) (fun q=>N.nm (B.q.nz (p2.q.nz q)) (K.z.trans z)) fun ts t r _=>by rw[c])
structure LtP (m:Nat) (s:PS) (k:Int) (l:List (List C)) (s2:PS):Prop where
 i:PsI s
 m:20*lft s+11<m+1
 c:(wdA s).k=3
 K:KlI 2 .e (fun ts ws t r=>∃ns,nmC ns=l/\hk ws=27/\∃a r1,Pa (Dp s) .e ws.tail a r1/\hk r1=5/\∃b,Pa (Dp s) .e r1.tail b r/\t= .n k 3 0 ns (ts ++[a] ++[b])) (Dp s) s s2 []
 f:lft s2+1<=lft s
 k:0<=k/\k<=34
 r:Rw fSt Tt l
 n:l.length<=6
 z:s2.er=0->∃ns,nmC ns=l
theorem LtP.go {m:Nat}{s s2:PS}{k:Int}{l:List (List C)}(h:LtP m s k l s2):WdP s2/\∀(x_3:WdS × PS),TkR (wnB s2 27) x_3.1 x_3.2->PrP m 12 x_3.2/\∀(x_4:Int × PS),Pr Lv.e x_3.2 x_4.1 x_4.2->WdP x_4.2/\∀(x_5:WdS × PS),TkR (wnB x_4.2 5) x_5.1 x_5.2->PrP m 12 x_5.2/\∀(x_6:Int × PS),Pr Lv.e x_5.2 x_6.1 x_6.2->x_6.2.ps.length<=200000/\∀(x_7:Int × PS),AdQ x_6.2 {k:=k,a:=(wdA s).a,w:=(wdA s).k,n:=0,m:=l,s:=[[I x_4.1],[I x_6.1]]} x_7.1 x_7.2->Pr Lv.e s x_7.1 x_7.2:=by
 obtain⟨hi,hm,c,A,M,hk,G,hn,J⟩:=h;have B:=A.q.i.wt (k:=27) (by omega);refine⟨A.q.i.w,fun⟨w,s3⟩ ⟨e1,e2⟩=>?_⟩
 dsimp only at e2 ⊢
 subst e2;have A:=A.want B (R':=fun ts ws t r=>∃ns,nmC ns=l/\∃a r1,Pa (Dp s) .e ws a r1/\V.hk r1=5/\∃b,Pa (Dp s) .e r1.tail b r/\t= .n k 3 0 ns (ts ++[a] ++[b])) fun ts t r=>Jcy;generalize avS (wnB s2 27)=s3 at A B ⊢;have O:=B.q.f;refine⟨⟨B.q.i,by omega⟩,fun⟨x1,s4⟩ p1=>?_⟩
 dsimp only at p1 ⊢
 have A:=A.next (c':=2) (R':=fun ts ws t r=>∃ns,nmC ns=l/\V.hk ws=5/\∃b,Pa (Dp s) .e ws.tail b r/\t= .n k 3 0 ns (ts ++[b])) (Stq.refl B.q.i) rfl rfl rfl p1 (.inl (Nat.le_refl _)) fun ts _ t r=>⟨fun⟨ns,q1,a,r1,q2,q3⟩=>⟨a,r1,q2,ns,q1,q3⟩,fun⟨a,r1,q2,ns,q1,q3⟩=>⟨ns,q1,a,r1,q2,q3⟩⟩
 have E:=p1.q.i.wt (k:=5) (by omega);have P:=p1.q.f;refine⟨p1.q.i.w,fun⟨w,s5⟩ ⟨e1,e2⟩=>?_⟩
 dsimp only at e2 ⊢
 subst e2;have A:=A.want E (R':=fun ts ws t r=>∃ns,nmC ns=l/\∃b,Pa (Dp s) .e ws b r/\t= .n k 3 0 ns (ts ++[b])) fun ts t r=>Jcy;generalize avS (wnB s4 5)=s5 at A E ⊢;have Y:=E.q.f;refine⟨⟨E.q.i,by omega⟩,fun⟨x2,s6⟩ p2=>?_⟩
 dsimp only at p2 ⊢
 have A:=A.next (c':=2) (R':=fun ts ws t r=>∃ns,nmC ns=l/\t= .n k 3 0 ns ts/\r=ws) (Stq.refl E.q.i) rfl rfl rfl p2 (.inl (Nat.le_refl _)) fun ts _ t r=>last2;have pn:=p2.q.i.pn;refine⟨by omega,fun⟨v,s7⟩ ⟨e1,e2⟩=>?_⟩
 dsimp only at e1 e2 ⊢
 subst e1 e2;exact A.node hi (Nat.le_refl _) (x:=⟨k,_,(wdA s).k,0,l,_⟩) hk (by dsimp only;omega) G hn rfl (by simp) (fun q=>J (B.q.nz (p1.q.nz (E.q.nz (p2.q.nz q))))) fun ts t r _=>by rw[c]
theorem Jgl {m:Nat}(g:Good T1 (Jar m)) {s:PS}(h:PrK (m+1) 11 3 s):Tot T1 (cPr .e s True) 76 [pPS s]:=vF (⟨hPS,[21,47],[],[]⟩) (g) Tryz.func76 (WdP s/\∀(x:WdS × PS),TkR s x.1 x.2->WdP x.2/\∀(x_1:Int × Unit),x_1.1=(wdA x.2).k->br (decide (x_1.1=4)) (WdP x.2/\∀(x_2:WdS × PS),TkR x.2 x_2.1 x_2.2->PsI x_2.2/\∀(x_3:List (List C) × PS),Jam 5 fnF x_2.2 x_3.1 x_3.2->WdP x_3.2/\∀(x_4:WdS × PS),TkR (wnB x_3.2 27) x_4.1 x_4.2->PrP m 12 x_4.2/\∀(x_5:Int × PS),Pr Lv.e x_4.2 x_5.1 x_5.2->WdP x_5.2/\∀(x_6:WdS × PS),TkR (wnB x_5.2 5) x_6.1 x_6.2->PrP m 12 x_6.2/\∀(x_7:Int × PS),Pr Lv.e x_6.2 x_7.1 x_7.2->x_7.2.ps.length<=200000/\∀(x_8:Int × PS),AdQ x_7.2 {k:=9,a:=x.1.a,w:=x.1.k,n:=0,m:=x_3.1,s:=[[I x_5.1],[I x_7.1]]} x_8.1 x_8.2->Pr Lv.e s x_8.1 x_8.2) (br (decide (x_1.1=23)) ((PsI x.2/\(wdA x.2).k=23)/\∀(x_2:List (List C) × PS),Jam 6 (tpF ((x.2,()).1.ns-(x.2,()).1.op)) x.2 x_2.1 x_2.2->WdP x_2.2/\∀(x_3:WdS × PS),TkR (wnB x_2.2 27) x_3.1 x_3.2->PrP m 12 x_3.2/\∀(x_4:Int × PS),Pr Lv.e x_3.2 x_4.1 x_4.2->WdP x_4.2/\∀(x_5:WdS × PS),TkR (wnB x_4.2 5) x_5.1 x_5.2->PrP m 12 x_5.2/\∀(x_6:Int × PS),Pr Lv.e x_5.2 x_6.1 x_6.2->x_6.2.ps.length<=200000/\∀(x_7:Int × PS),AdQ x_6.2 {k:=10,a:=x.1.a,w:=x.1.k,n:=0,m:=x_2.1,s:=[[I x_4.1],[I x_6.1]]} x_7.1 x_7.2->Pr Lv.e s x_7.1 x_7.2) (WdP x.2/\∀(x_2:WdS × PS),TkR (wnB x.2 2) x_2.1 x_2.2->WdP x_2.2/\∀(x_3:WdS × PS),TkR (wnB x_2.2 27) x_3.1 x_3.2->PrP m 12 x_3.2/\∀(x_4:Int × PS),Pr Lv.e x_3.2 x_4.1 x_4.2->WdP x_4.2/\∀(x_5:WdS × PS),TkR (wnB x_4.2 5) x_5.1 x_5.2->PrP m 12 x_5.2/\∀(x_6:Int × PS),Pr Lv.e x_5.2 x_6.1 x_6.2->x_6.2.ps.length<=200000/\∀(x_7:Int × PS),AdQ x_6.2 {k:=8,a:=x.1.a,w:=x.1.k,n:=0,m:=[[C.s x_2.1.s]],s:=[[I x_4.1],[I x_6.1]]} x_7.1 x_7.2->Pr Lv.e s x_7.1 x_7.2))) (by kernel_rfl) (by
 obtain⟨hi,hm,c⟩:=h;have hd:=(Jaf hi.w).1;have nz:(wdA s).k≠0:=by rw[c];omega
 refine⟨hi.w,fun⟨w,s1⟩ ⟨e1,e2⟩=>?_⟩
 dsimp only at e1 e2 ⊢
 subst e1 e2;have A:=KlI.take (lv:=.e) (R:=fun ts ws t r=>∃k ns r0,lhF (Dp s) ws=some (k,ns,r0)/\hk r0=27/\∃a r1,Pa (Dp s) .e r0.tail a r1/\hk r1=5/\∃b,Pa (Dp s) .e r1.tail b r/\t= .n k 3 0 ns (ts ++[a] ++[b])) hi nz fun t r=>Pa.iff.trans (by simp only[St1];rw[hd,c];exact iff_of_eq (if_pos rfl));obtain⟨K,z⟩:=hi.tk nz;have Z:=K.l;have M:(avS s).er=0:=K.z.trans z;have B:=K.q.i;have O:(avS s).ns-(avS s).op=Dp s:=rfl;generalize avS s=s1 at A K Z M B O ⊢;have J:=(Jaf B.w).1;refine⟨B.w,fun⟨x,_⟩ e=>?_⟩;have e:x=(wdA s1).k:=e;subst e
 dsimp only
 refine⟨fun G=>⟨B.w,fun⟨w,s2⟩ ⟨e1,e2⟩=>?_⟩,fun G=>⟨fun h23=>⟨⟨B,dt h23⟩,fun⟨l,s2⟩ N=>?_⟩,fun h23=>⟨B.w,fun⟨w,s2⟩ ⟨e1,e2⟩=>?_⟩⟩⟩
 .dsimp only at e1 e2 ⊢
  subst e1 e2;have G:=dt G;obtain⟨E,z2⟩:=B.tk (by rw[G];omega);have l2:=E.l;refine⟨E.q.i,fun⟨l,s3⟩ N=>?_⟩
  dsimp only at N ⊢
  have P:=N.q.f;have nn:=N.n
  have V:Wtd s1 4 (avS s1):=⟨E.q,E.o,E.p,fun _=>⟨z2,E.z.trans z2,E.f,l2⟩,fun q=>absurd (J.trans G) q⟩
  have A:=A.want V (R':=fun ts ws t r=>∃ns r0,fnF ws=some (ns,r0)/\hk r0=27/\∃a r1,Pa (Dp s) .e r0.tail a r1/\hk r1=5/\∃b,Pa (Dp s) .e r1.tail b r/\t= .n 9 3 0 ns (ts ++[a] ++[b])) fun ts t r=>by
   unfold lhF;rw[J,G]
   constructor
   .rintro ⟨k,ns,r0,q1,q2⟩
    rw[if_pos rfl]at q1
    split at q1
    .rename_i q3;cases q1;exact⟨rfl,ns,r0,q3,q2⟩
    .cases q1
   .rintro ⟨_,ns,r0,q1,q2⟩
    exact⟨9,ns,r0,by rw[if_pos rfl,q1],q2⟩
  exact LtP.go ⟨hi,hm,c,A.nms N fun ts t r=>Iff.rfl,by omega,by omega,N.r,by omega,fun q=>N.nm q (E.z.trans z2)⟩
 .have h23:=dt h23
  replace N:Jam 6 (tpF (s1.ns-s1.op)) s1 l s2:=N;rw[O]at N
  dsimp only
  have P:=N.q.f;refine LtP.go ⟨hi,hm,c,A.nms N fun ts t r=>?_,by omega,by omega,N.r,N.n,fun q=>N.nm q M⟩;unfold lhF;rw[J,h23]
  constructor
  .rintro ⟨k,ns,r0,q1,q2⟩
   rw[if_neg (by decide),if_pos rfl]at q1
   split at q1
   .rename_i q3;cases q1;exact⟨ns,r0,q3,q2⟩
   .cases q1
  .rintro ⟨ns,r0,q1,q2⟩
   exact⟨10,ns,r0,by rw[if_neg (by decide),if_pos rfl,q1],q2⟩
 .dsimp only at e1 e2 ⊢
  subst e1 e2;rw[<-J]at G h23;have W:=B.wt (k:=2) (by omega);have P:=W.q.f;have Y:hk (suf s1)=2->(wdA (wnB s1 2)).s=hs (suf s1):=fun q=>by rw[Ja6 q B.w];exact(Jaf B.w).2.2.symm
  have N:Jam 1 (fun ws=>if hk ws=2 then some ([hs ws],ws.tail) else none) s1 [[C.s (wdA (wnB s1 2)).s]] (avS (wnB s1 2)):=⟨W.q,W.o,W.p,Rw.one (S:=fSt) trivial,by simp,fun _=>by
   by_cases q:hk (suf s1)=2
   .have y:=W.y q
    exact .inl ⟨y.2.1,[hs (suf s1)],by rw[if_pos q,y.2.2.1],by rw[Y q];rfl⟩
   .exact .inr ⟨W.n q,if_neg q⟩⟩
  refine LtP.go ⟨hi,hm,c,A.nms N fun ts t r=>?_,by omega,by omega,N.r,by simp,fun q=>N.nm q M⟩;unfold lhF;rw[if_neg (df G),if_neg (df h23)]
  constructor
  .rintro ⟨k,ns,r0,q1,q2⟩
   split at q1
   .rename_i q3;cases q1;exact⟨_,_,if_pos q3,q2⟩
   .cases q1
  .rintro ⟨ns,r0,q1,q2⟩
   split at q1
   .rename_i q3;cases q1;exact⟨8,_,_,if_pos q3,q2⟩
   .cases q1)
structure PfI (s:PS) (kd c:Int) (w:WdS) (s':PS) (kd' c':Int) (w':WdS) (ks:List (List C)):Prop where
 e:kd'=kd/\c'=c/\w'=w
 n:(ks.length:Int)<=c
 k:KlI 0 (.fl c.toNat kd w.k []) (fun ts ws t r=>Pa (Dp s) (.fl c.toNat kd w.k ts) ws t r) (Dp s) s s' ks
def pfT:Rl Av:=.cons 0 (tA 0) <| .cons 1 tI <| .cons 2 tI <| .cons 7 (tA 7) <| .cons 8 (tL 8) .nil
def pfRt:Rl Rt:=.cons 0 (rX 0 fPS) <| .cons 7 (rX 1 fWd) <| .cons 8 (rX 2 (fO 1)) .nil
def pfH (s:PS) (kd c:Int):Hy:=⟨hPS,[],[(6,[(8,0)])],[(3,.iv pfT pfRt (fun q=>PfI (avS s) kd c (wdA s) q.2.1 q.1.2.1 q.1.2.2.1 q.2.2.1 q.2.2.2.1) fun q=>(c-q.2.2.2.1.length).toNat)]⟩
theorem Jgi {m:Nat}(g:Good T1 (Jar m)) {s:PS}{kd c:Int}(h:PfP (m+1) kd c s):Tot T1 (mkc rI bPS (fun x s'=>PfR kd c s x s') True) 241 [pPS s,pI kd,pI c]:=vF (pfH s kd c) (g) Tryz.func241 (WdP s/\∀(x:WdS × PS),TkR s x.1 x.2->PfI (avS s) kd c (wdA s) x.2 kd c x.1 []/\∀(a:(Unit × Int × Int × Unit × Unit × Unit) × PS × WdS × List (List C) × Unit),PfI (avS s) kd c (wdA s) a.2.1 a.1.2.1 a.1.2.2.1 a.2.2.1 a.2.2.2.1->br (decide (↑(List.length a.2.2.2.1)<a.1.2.2.1)) (PrP m 5 a.2.1/\∀(x:Int × PS),Pr Lv.o a.2.1 x.1 x.2->List.length a.2.2.2.1+1<=4000000000/\PfI (avS s) kd c (wdA s) x.2 a.1.2.1 a.1.2.2.1 a.2.2.1 (a.2.2.2.1 ++(List.replicate 1 [iz IntKind.i64]).set 0 [I x.1])/\(c-↑(a.2.2.2.1 ++(List.replicate 1 [iz IntKind.i64]).set 0 [I x.1]).length).toNat<(c-↑(List.length a.2.2.2.1)).toNat) (pln a.2.2.2.1/\a.2.1.ps.length<=200000/\∀(x:Int × PS),AdQ a.2.1 {k:=a.1.2.1,a:=a.2.2.1.a,w:=a.2.2.1.k,n:=0,m:=[],s:=a.2.2.2.1} x.1 x.2->PfR kd c s x.1 x.2)) (by kernel_rfl) (by
 obtain⟨hi,hm,nz,B,G⟩:=h;obtain⟨K,z⟩:=hi.tk nz;have M:=K.l;refine⟨hi.w,fun⟨w,s1⟩ ⟨e1,e2⟩=>?_⟩
 dsimp only at e1 e2 ⊢
 subst e1 e2;refine⟨⟨⟨rfl,rfl,rfl⟩,by simpa using G.1,KlI.refl K.q.i fun t r=>Iff.rfl⟩,fun⟨⟨_,kd',c',_⟩,s2,w',ks,_⟩ ⟨⟨e1,e2,e3⟩,hn,A⟩=>?_⟩
 dsimp only at e1 e2 e3 hn A ⊢
 subst e1 e2 e3;have J:=A.q.f;refine⟨fun hb=>⟨⟨A.q.i,by omega⟩,fun⟨y,s3⟩ p=>?_⟩,fun hb=>⟨Rw.pln A.r,by have:=A.q.i.pn;omega,fun⟨v,s3⟩ ⟨e1,e2⟩=>?_⟩⟩
 .have hb:=dt hb
  dsimp only at p ⊢
  have ll:(ks ++(List.replicate 1 [iz IntKind.i64]).set 0 [I y]).length=ks.length+1:=by rw[List.length_append];rfl
  refine⟨by omega,⟨⟨rfl,rfl,rfl⟩,by omega,A.next (Stq.refl A.q.i) rfl rfl rfl p (.inl (Nat.le_refl _)) fun ts hl t r=>Pa.iff.trans ?_⟩,by omega⟩;simp only[St1];rw[if_pos (by omega)]
 .have hb:=df hb
  dsimp only at e1 e2 ⊢
  subst e1 e2;have b:=A.q.b;rw[K.p]at b;have q:Stq s s2:=K.q.trans A.q;have E:s2.op=s.op:=by have o:s2.ns-s2.op=s.ns-s.op:=A.o;have:=q.ns;omega
  have ok:Jao ⟨kd',(wdA s).a,(wdA s).k,0,[],ks⟩:=⟨B,by dsimp only;omega,Rw.nil,by simp,A.r,by dsimp only;omega⟩
  refine⟨q.add hi ok (by omega),E,by show(adS s2 _).ps.length+_+1<=_;rw[JaL,show lft {s2 with ps:=s2.ps ++[fPq.f ⟨kd',(wdA s).a,(wdA s).k,0,[],ks⟩]}=lft s2 from rfl];omega,?_⟩
  rcases A.d (K.z.trans z)with⟨a0,ts,a1,a2,a3⟩|⟨a1,a2⟩
  .have eE:(Dp (avS s))=Dp s:=rfl
   obtain⟨n1,n2⟩:=a3.node (x:=⟨kd',(wdA s).a,(wdA s).k,0,[],ks⟩) (ns:=[]) rfl rfl;refine .inl ⟨a0,.n kd' (wdA s).k 0 [] ts,?_,n1,n2⟩;rw[<-K.f];refine(a2 _ _).2 (Pa.iff.2 ?_);simp only[St1];rw[if_neg (by omega)]
   constructor <;> trivial
  .refine .inr ⟨a1,fun t r q=>a2 t r ?_⟩
   rw[<-K.f]at q
   exact q)
structure CaI (s s':PS) (x:Int) (ks:List (List C)):Prop where
 n:1<=ks.length/\ks.length<=5
 o:ks.length=1->ks=[[I x]]
 l:2<=ks.length->0<lft s
 k:KlI (if 0<lft s then ks.length else 0) .k (fun ts ws t r=>Pa (Dp s) (.kl ts) ws t r) (Dp s) s s' ks
def caT:Rl Av:=.cons 0 (tA 0) <| .cons 3 tI <| .cons 4 (tL 4) .nil
def caRt:Rl Rt:=.cons 0 (rX 0 fPS) <| .cons 4 (rX 2 (fO 1)) .nil
def caH (s:PS):Hy:=⟨hPS,[],[(18,[(4,0)])],[(12,.iv caT caRt (fun q=>CaI s q.2.1 q.1.2.1 q.2.2.1) fun q=>5-q.2.2.1.length)]⟩
theorem Jgw {m:Nat}(g:Good T1 (Jar m)) {s:PS}(h:PrP (m+1) 6 s):Tot T1 (cPr .k s True) 234 [pPS s]:=vF (caH s) (g) Tryz.func234 (WdP s/\∀(x:Int × Unit),x.1=(wdA s).k->br (decide (x.1=14)) (PfP m 21 1 s/\∀(x:Int × PS),PfR 21 1 s x.1 x.2->Pr Lv.k s x.1 x.2) (br (decide (x.1=15)) (PfP m 22 1 s/\∀(x:Int × PS),PfR 22 1 s x.1 x.2->Pr Lv.k s x.1 x.2) (br (decide (x.1=16)) (PfP m 23 2 s/\∀(x:Int × PS),PfR 23 2 s x.1 x.2->Pr Lv.k s x.1 x.2) (br (decide (x.1=17)) (PfP m 24 3 s/\∀(x:Int × PS),PfR 24 3 s x.1 x.2->Pr Lv.k s x.1 x.2) (PrP m 5 s/\∀(x:Int × PS),Pr Lv.o s x.1 x.2->CaI s x.2 x.1 [[I x.1]]/\∀(a:(Unit × Int × Unit × Unit) × PS × List (List C) × Unit),CaI s a.2.1 a.1.2.1 a.2.2.1->br (decide (↑(List.length a.2.2.1)<=(4:Int))) (WdP a.2.1/\∀(x:Bool × Unit),x.1=jnc (wdA a.2.1).k->br x.1 (PrP m 5 a.2.1/\∀(x:Int × PS),Pr Lv.o a.2.1 x.1 x.2->List.length a.2.2.1+1<=4000000000/\CaI s x.2 a.1.2.1 (a.2.2.1 ++(List.replicate 1 [iz IntKind.i64]).set 0 [I x.1])/\5-(a.2.2.1 ++(List.replicate 1 [iz IntKind.i64]).set 0 [I x.1]).length<5-List.length a.2.2.1) (br (decide (↑(List.length a.2.2.1)=(1:Int))) (Pr Lv.k s a.1.2.1 a.2.1) ((∀(e:List C),e ∈ a.2.1.ps->∃(y:PqS),e=fPq.f y/\Jao y)/\∀(x:Int × Unit),True->pln a.2.2.1/\a.2.1.ps.length<=200000/\∀(x_1:Int × PS),AdQ a.2.1 {k:=19,a:=x.1,w:=0,n:=0,m:=[],s:=a.2.2.1} x_1.1 x_1.2->Pr Lv.k s x_1.1 x_1.2))) (false=false/\br (decide (↑(List.length a.2.2.1)=(1:Int))) (Pr Lv.k s a.1.2.1 a.2.1) ((∀(e:List C),e ∈ a.2.1.ps->∃(y:PqS),e=fPq.f y/\Jao y)/\∀(x:Int × Unit),True->pln a.2.2.1/\a.2.1.ps.length<=200000/\∀(x_1:Int × PS),AdQ a.2.1 {k:=19,a:=x.1,w:=0,n:=0,m:=[],s:=a.2.2.1} x_1.1 x_1.2->Pr Lv.k s x_1.1 x_1.2))))))) (by kernel_rfl) (by
 have hm:=h.m;have hd:=(Jaf h.i.w).1;refine⟨h.i.w,fun⟨x,_⟩ e=>?_⟩;have e:x=(wdA s).k:=e;subst e
 dsimp only
 refine⟨fun h1=>?_,fun h1=>⟨fun h2=>?_,fun h2=>⟨fun h3=>?_,fun h3=>⟨fun h4=>?_,fun h4=>⟨⟨h.i,by omega⟩,fun⟨x,s1⟩ p=>?_⟩⟩⟩⟩⟩
 .have c:=dt h1
  have B:(wdA s).k≠0:=by rw[c];omega
  exact⟨⟨h.i,by omega,B,by omega,by omega⟩,fun⟨x,s1⟩ q=>Pr.ofPf q h.i B fun t r=>Pa.iff.trans (by simp only[St1,JaK];rw[hd,c];exact iff_of_eq (if_pos rfl))⟩
 .have c:=dt h2
  have B:(wdA s).k≠0:=by rw[c];omega
  exact⟨⟨h.i,by omega,B,by omega,by omega⟩,fun⟨x,s1⟩ q=>Pr.ofPf q h.i B fun t r=>Pa.iff.trans (by simp only[St1,JaK];rw[hd,c];exact iff_of_eq ((if_neg (by decide)).trans <|if_pos rfl))⟩
 .have c:=dt h3
  have B:(wdA s).k≠0:=by rw[c];omega
  exact⟨⟨h.i,by omega,B,by omega,by omega⟩,fun⟨x,s1⟩ q=>Pr.ofPf q h.i B fun t r=>Pa.iff.trans (by simp only[St1,JaK];rw[hd,c];exact iff_of_eq ((if_neg (by decide)).trans <|(if_neg (by decide)).trans <|if_pos rfl))⟩
 .have c:=dt h4
  have B:(wdA s).k≠0:=by rw[c];omega
  exact⟨⟨h.i,by omega,B,by omega,by omega⟩,fun⟨x,s1⟩ q=>Pr.ofPf q h.i B fun t r=>Pa.iff.trans (by simp only[St1,JaK];rw[hd,c];exact iff_of_eq ((if_neg (by decide)).trans <|(if_neg (by decide)).trans <|(if_neg (by decide)).trans <|if_pos rfl))⟩
 .dsimp only at p ⊢
  have M:=KlI.refl (lv:=.k) (R:=fun ts ws t r=>∃a r1,Pa (Dp s) .o ws a r1/\Pa (Dp s) (.kl (ts ++[a])) r1 t r) h.i fun t r=>Pa.iff.trans (by simp only[St1,JaK];rw[hd,if_neg (df h1),if_neg (df h2),if_neg (df h3),if_neg (df h4)];rfl);refine⟨⟨by simp,fun _=>rfl,fun q=>by simp at q,M.next (Stq.refl h.i) rfl rfl rfl p (by split;exact .inr ⟨by simp,by assumption⟩;exact .inl (Nat.le_refl _)) fun ts _ t r=>Iff.rfl⟩,fun⟨⟨_,x,_⟩,s2,ks,_⟩ ⟨hn,ho,hl,A⟩=>?_⟩
  dsimp only at hn ho hl A ⊢
  have P:=A.q.f;have pn:=A.q.i.pn;have G:=(Jaf A.q.i.w).1
  have fin:(¬(ks.length<=4/\jnc (hk (suf s2))=true))->(decide ((ks.length:Int)=(1:Int))=true->Pr Lv.k s x s2)/\(decide ((ks.length:Int)=(1:Int))=false->(∀(e:List C),e ∈ s2.ps->∃(y:PqS),e=fPq.f y/\Jao y)/\∀(x:Int × Unit),True->pln ks/\s2.ps.length<=200000/\∀(x_1:Int × PS),AdQ s2 {k:=19,a:=x.1,w:=0,n:=0,m:=[],s:=ks} x_1.1 x_1.2->Pr Lv.k s x_1.1 x_1.2):=fun hq=>by
   have R:∀(ts:List Te) t r,ts.length=ks.length->(Pa (Dp s) (.kl ts) (suf s2) t r↔t=JaJ 19 ts/\r=suf s2):=fun ts t r hl=>Pa.iff.trans (by simp only[St1];rw[if_neg (by rw[hl];exact hq)];exact and_comm);refine⟨fun h1=>?_,fun h1=>⟨A.q.i.ps,fun⟨v,_⟩ _=>⟨Rw.pln A.r,by omega,fun⟨y,s3⟩ ⟨e1,e2⟩=>?_⟩⟩⟩
   .have h1:=dt h1
    have e:=ho (by omega);subst e;exact A.one (fun q=>by rw[if_pos q];exact Nat.le_refl _) fun a t r=>R [a] t r rfl
   .have h1:=df h1
    dsimp only at e1 e2 ⊢
    subst e1 e2;have hl:=hl (by omega);rw[if_pos hl]at A
    exact A.node h.i (by omega) (x:=⟨19,v,0,0,[],ks⟩) (by dsimp only;omega) (by dsimp only;omega) Rw.nil (by simp) rfl (by omega) (fun _=>⟨[],rfl⟩) fun ts t r hl=>(R ts t r hl).trans (by
     match ts,hl with
     |[],hl=>simp at hl;omega
     |[a],hl=>simp at hl;omega
     |a ::b ::ts,_=>exact Jbk)
  refine⟨fun E=>⟨A.q.i.w,fun⟨b,_⟩ e=>?_⟩,fun E=>⟨rfl,fin fun q=>by have:=df E;omega⟩⟩;have e:b=jnc (wdA s2).k:=e;subst e
  dsimp only
  have E:=dt E;refine⟨fun ho2=>⟨⟨A.q.i,by omega⟩,fun⟨y,s3⟩ p=>?_⟩,fun ho2=>fin fun q=>by rw[G,ho2]at q;cases q.2⟩
  dsimp only at p ⊢
  have ll:(ks ++(List.replicate 1 [iz IntKind.i64]).set 0 [I y]).length=ks.length+1:=by rw[List.length_append];rfl
  have O:=JgL (JbK (.inr <| .inr <| .inr ho2));have J:0<lft s:=by omega
  rw[if_pos J]at A;refine⟨by omega,⟨by omega,fun q=>by omega,fun _=>J,?_⟩,by omega⟩;rw[if_pos J,ll];refine A.next (Stq.refl A.q.i) rfl rfl rfl p (.inr ⟨Nat.le_refl _,O⟩) fun ts hl t r=>Pa.iff.trans ?_;simp only[St1]
  rw[G,if_pos ⟨by omega,ho2⟩])
structure BrI (s s':PS) (x:Int) (w:WdS) (ks:List (List C)):Prop where
 n:1<=ks.length/\ks.length<=6
 o:ks.length=1->ks=[[I x]]
 k:KlI 2 .a (fun ts ws t r=>Pa (Dp s) (.tl ts) ws t r) (Dp s-1) s s' ks
def brT:Rl Av:=.cons 0 (tA 0) <| .cons 3 (tA 3) <| .cons 4 tI <| .cons 5 (tL 5) .nil
def brRt:Rl Rt:=.cons 0 (rX 0 fPS) <| .cons 3 (rX 1 fWd) <| .cons 5 (rX 2 (fO 1)) .nil
def brH (s:PS):Hy:=⟨hPS,[],[(14,[(5,0)])],[(7,.iv brT brRt (fun q=>BrI s q.2.1 q.1.2.2.1 q.2.2.1 q.2.2.2.1) fun q=>6-q.2.2.2.1.length)]⟩
theorem Jgx {m:Nat}(g:Good T1 (Jar m)) {s:PS}(h:PrK (m+1) 3 23 s):Tot T1 (cPr .a s True) 248 [pPS s]:=vF (brH s) (g) Tryz.func248 (BgP s 23/\∀(x:WdS × PS),JaV s x.1 x.2->WdP x.2/\∀(x_1:Int × Unit),x_1.1=(wdA x.2).k->br (decide (x_1.1=24)) ((WdP x.2/\0<=x.2.op/\x.2.op<=1000)/\∀(x_2:Unit × PS),JaE x.2 x_2.2->x_2.2.ps.length<=200000/\∀(x_3:Int × PS),AdQ x_2.2 {k:=6,a:=x.1.a,w:=0,n:=0,m:=[],s:=[]} x_3.1 x_3.2->Pr Lv.a s x_3.1 x_3.2) (PrP m 12 x.2/\∀(x_2:Int × PS),Pr Lv.e x.2 x_2.1 x_2.2->BrI s x_2.2 x_2.1 x.1 [[I x_2.1]]/\∀(a:(Unit × Unit × Int × Unit × Unit) × PS × WdS × List (List C) × Unit),BrI s a.2.1 a.1.2.2.1 a.2.2.1 a.2.2.2.1->br (decide (↑(List.length a.2.2.2.1)<(6:Int))) (WdP a.2.1/\∀(x:Int × Unit),x.1=(wdA a.2.1).k->br (decide (x.1=25)) (WdP a.2.1/\∀(x:WdS × PS),TkR a.2.1 x.1 x.2->PrP m 12 x.2/\∀(x_3:Int × PS),Pr Lv.e x.2 x_3.1 x_3.2->List.length a.2.2.2.1+1<=4000000000/\BrI s x_3.2 a.1.2.2.1 a.2.2.1 (a.2.2.2.1 ++(List.replicate 1 [iz IntKind.i64]).set 0 [I x_3.1])/\6-(a.2.2.2.1 ++(List.replicate 1 [iz IntKind.i64]).set 0 [I x_3.1]).length<6-List.length a.2.2.2.1) ((WdP a.2.1/\0<=a.2.1.op/\a.2.1.op<=1000)/\∀(x:Unit × PS),JaE a.2.1 x.2->br (decide (↑(List.length a.2.2.2.1)=(1:Int))) (Pr Lv.a s a.1.2.2.1 x.2) (pln a.2.2.2.1/\x.2.ps.length<=200000/\∀(x_3:Int × PS),AdQ x.2 {k:=7,a:=a.2.2.1.a,w:=0,n:=0,m:=[],s:=a.2.2.2.1} x_3.1 x_3.2->Pr Lv.a s x_3.1 x_3.2))) (false=false/\(WdP a.2.1/\0<=a.2.1.op/\a.2.1.op<=1000)/\∀(x:Unit × PS),JaE a.2.1 x.2->br (decide (↑(List.length a.2.2.2.1)=(1:Int))) (Pr Lv.a s a.1.2.2.1 x.2) (pln a.2.2.2.1/\x.2.ps.length<=200000/\∀(x_3:Int × PS),AdQ x.2 {k:=7,a:=a.2.2.1.a,w:=0,n:=0,m:=[],s:=a.2.2.2.1} x_3.1 x_3.2->Pr Lv.a s x_3.1 x_3.2)))) (by kernel_rfl) (by
 obtain⟨hi,hm,c⟩:=h;have hd:=(Jaf hi.w).1;have op:=hi.op;have ns:=hi.ns;have B:=hi.bg (by rw[c];omega);refine⟨⟨hi.w,c,by omega⟩,fun⟨w,s1⟩ ⟨e1,e2⟩=>?_⟩
 dsimp only at e1 e2 ⊢
 subst e2;clear e1;generalize avS {bgB s with op:=s.op+1}=s1 at B ⊢;have V:=B.l;have Z:=B.o;have J:=(Jaf B.q.i.w).1;have O:∀t r,Pa (Dp s) .a (suf s) t r↔0<Dp s/\(if hk (suf s).tail=24 then r=(suf s).tail.tail/\t= .n 6 0 0 [] [] else ∃a r1,Pa (Dp s-1) .e (suf s).tail a r1/\Pa (Dp s) (.tl [a]) r1 t r):=fun t r=>Pa.iff.trans (by simp only[St1,JaC];rw[hd,c];exact iff_of_eq ((if_neg (by decide)).trans <|(if_neg (by decide)).trans <|(if_neg (by decide)).trans <|(if_neg (by decide)).trans <|(if_neg (by decide)).trans <|if_pos rfl));have A:=KlI.begin B (lv:=.a) (R:=fun ts ws t r=>if hk ws=24 then r=ws.tail/\t= .n 6 0 0 [] ts else ∃a r1,Pa (Dp s-1) .e ws a r1/\Pa (Dp s) (.tl (ts ++[a])) r1 t r) (fun q t r p=>q ((O t r).1 p).1) fun q t r=>(O t r).trans ⟨fun p=>p.2,fun p=>⟨q,p⟩⟩;refine⟨B.q.i.w,fun⟨x,_⟩ e=>?_⟩;have e:x=(wdA s1).k:=e;subst e
 dsimp only
 refine⟨fun E=>⟨⟨B.q.i.w,by omega,by omega⟩,fun⟨_,s2⟩ ⟨e1⟩=>?_⟩,fun E=>⟨⟨B.q.i,by omega⟩,fun⟨x,s2⟩ p=>?_⟩⟩
 .have E:=J.trans (dt E)
  have F:=B.q.i.fn (by omega)
  dsimp only at e1 ⊢
  subst e1;generalize ({avS (wnB s1 24)with op:=s1.op-1}:PS)=s2 at F ⊢;have pn:=F.q.i.pn;refine⟨by omega,fun⟨y,s3⟩ ⟨e1,e2⟩=>?_⟩
  dsimp only at e1 e2 ⊢
  subst e1 e2;have A:=A.finish F (R':=fun ts ws t r=>t= .n 6 0 0 [] ts/\r=ws) fun ts t r _=>by rw[if_pos E];exact⟨fun q=>⟨E,q.2,q.1⟩,fun q=>⟨q.2.2,q.2.1⟩⟩
  rw[Int.sub_add_cancel]at A;exact A.node hi (Nat.le_refl _) (x:=⟨6,_,0,0,[],[]⟩) (by dsimp only;omega) (by dsimp only;omega) Rw.nil (by simp) rfl (by simp) (fun _=>⟨[],rfl⟩) fun ts t r _=>Jbk
 .have E:¬hk (suf s1)=24:=by rw[J];exact df E
  dsimp only at p ⊢
  refine⟨⟨by simp,fun _=>rfl,A.next (Stq.refl B.q.i) rfl rfl rfl p (.inl (Nat.le_refl _)) fun ts _ t r=>by rw[if_neg E]⟩,fun⟨⟨_,_,x,_⟩,s2,w,ks,_⟩ ⟨hn,ho,A⟩=>?_⟩
  dsimp only at hn ho A ⊢
  have P:=A.q.f;have o2:s2.op=s.op+1:=by have o:s2.ns-s2.op=s.ns-s.op-1:=A.o;have:=A.q.ns;omega
  have M:=(Jaf A.q.i.w).1;have F:=A.q.i.fn (by omega)
  have fin:(¬(ks.length<6/\hk (suf s2)=25))->(WdP s2/\0<=s2.op/\s2.op<=1000)/\∀(x':Unit × PS),JaE s2 x'.2->(decide ((ks.length:Int)=(1:Int))=true->Pr Lv.a s x x'.2)/\(decide ((ks.length:Int)=(1:Int))=false->pln ks/\x'.2.ps.length<=200000/\∀(x_3:Int × PS),AdQ x'.2 {k:=7,a:=w.a,w:=0,n:=0,m:=[],s:=ks} x_3.1 x_3.2->Pr Lv.a s x_3.1 x_3.2):=fun hq=>by
   refine⟨⟨A.q.i.w,by omega,by omega⟩,fun⟨_,s3⟩ ⟨e1⟩=>?_⟩
   dsimp only at e1 ⊢
   subst e1;generalize ({avS (wnB s2 24)with op:=s2.op-1}:PS)=s3 at F ⊢;have A:=A.finish F (R':=fun ts ws t r=>t=JaJ 7 ts/\r=ws) fun ts t r hl=>Pa.iff.trans (by simp only[St1];rw[if_neg (by rw[hl];exact hq)];exact⟨fun q=>⟨q.1,q.2.2,q.2.1⟩,fun q=>⟨q.1,q.2.2,q.2.1⟩⟩);rw[Int.sub_add_cancel]at A;have pn:=A.q.i.pn;refine⟨fun h1=>?_,fun h1=>⟨Rw.pln A.r,by omega,fun⟨y,s4⟩ ⟨e1,e2⟩=>?_⟩⟩
   .have h1:=dt h1
    have e:=ho (by omega);subst e;exact A.one (fun _=>by omega) fun a t r=>Iff.rfl
   .have h1:=df h1
    dsimp only at e1 e2 ⊢
    subst e1 e2
    exact A.node hi (Nat.le_refl _) (x:=⟨7,_,0,0,[],ks⟩) (by dsimp only;omega) (by dsimp only;omega) Rw.nil (by simp) rfl (by omega) (fun _=>⟨[],rfl⟩) fun ts t r hl=>by
     match ts,hl with
     |[],hl=>simp at hl;omega
     |[a],hl=>simp at hl;omega
     |a ::b ::ts,_=>exact Jbk
  refine⟨fun E=>⟨A.q.i.w,fun⟨b,_⟩ e=>?_⟩,fun E=>⟨rfl,fin fun q=>by have:=df E;omega⟩⟩;have e:b=(wdA s2).k:=e;subst e
  dsimp only
  have E:=dt E;refine⟨fun G=>⟨A.q.i.w,fun⟨w',s3⟩ ⟨e1,e2⟩=>?_⟩,fun G=>fin fun q=>df G (M.symm.trans q.2)⟩;have G:=dt G
  dsimp only at e1 e2 ⊢
  subst e1 e2;obtain⟨K,z⟩:=A.q.i.tk (by rw[G];omega);have Y:=K.l;refine⟨⟨K.q.i,by omega⟩,fun⟨y,s4⟩ p=>?_⟩
  dsimp only at p ⊢
  have ll:(ks ++(List.replicate 1 [iz IntKind.i64]).set 0 [I y]).length=ks.length+1:=by rw[List.length_append];rfl
  refine⟨by omega,⟨by omega,fun q=>by omega,A.next K.q K.o K.p K.z p (.inl (Nat.le_refl _)) fun ts hl t r=>Pa.iff.trans ?_⟩,by omega⟩;simp only[St1]
  rw[M,if_pos ⟨by omega,G⟩,K.f])
theorem Jel:∀m,Good T1 (Jar m)
 |0=>by
  unfold Jar;refine Good.ad1 (Good.ad1 (Good.ad1 (Good.ad1 (Good.ad1 (Good.ad1 (Good.ad1 (Good.ad1 (Good.ad1 (Good.ad1 (Good.ad1 (Good.ad1 (Good.ad1 (Good.ad1 Jeo ?_) ?_) ?_) ?_) ?_) ?_) ?_) ?_) ?_) ?_) ?_) ?_) ?_) ?_ <;> exact fun a h=>absurd h.m (Nat.not_lt_zero _)
 |m+1=>by
  have g:=Jel m;unfold Jar;refine Good.ad1 (Good.ad1 (Good.ad1 (Good.ad1 (Good.ad1 (Good.ad1 (Good.ad1 (Good.ad1 (Good.ad1 (Good.ad1 (Good.ad1 (Good.ad1 (Good.ad1 (Good.ad1 Jeo ?_) ?_) ?_) ?_) ?_) ?_) ?_) ?_) ?_) ?_) ?_) ?_) ?_) ?_
  .rintro a h;exact Jgi g h
  .rintro a h;exact Jgp g h
  .rintro a h;exact Jgn g h
  .rintro a h;exact Jgl g h
  .rintro a h;exact Jgx g h
  .rintro a h;exact Jgz g h
  .rintro a h;exact Jgk g h
  .rintro a h;exact Jgw g h
  .rintro a h;exact Jge g h
  .rintro a h;exact Jgj g h
  .rintro a h;exact Jgg g h
  .rintro a h;exact Jgv g h
  .rintro a h;exact Jgh g h
  .rintro a h;exact Jgq g h
end V
end Go.Proofs.YtnhbcdnmfafbiaaGreatDoor
set_option maxRecDepth 100000
namespace Go.Proofs.YtnhbcdnmfafbiaaGreatDoor
namespace V
open Go.Proofs
def fTr:Pz (List C):=⟨List (List C),fun l=>[.r false 6 l],fun v=>match v with
 |[.r false 6 l]=>some l
 |_=>none,fun b x e=>by split at e <;> cases e;rfl⟩
def rTE:Pz (List Arg):=⟨List (List C) × Int × Int,fun x=>[.pl (.ag (fTr.f x.1)),pI x.2.1,pI x.2.2],fun l=>match l with
 |[.pl (.ag [.r false 6 l]),.pl (.c (.i .i64 e)),.pl (.c (.i .i64 a))]=>some (l,e,a)
 |_=>none,fun b x e=>by split at e <;> cases e;rfl⟩
structure PsR (L:List (List C)) (ns:Int) (ps:List (List C)) (e a:Int):Prop where
 r:Rw fPq Jao ps
 n:ps.length<=100000
 y:e=0->a=0/\∃t r,Pa ns .e (L.map wdE) t r/\hk r=0/\ntl ps=Jan 0 t
 z:e≠0->(∀t r,Pa ns .e (L.map wdE) t r->hk r≠0)/\(a=0\/∃x,fWd.f x ∈ L/\a=x.a)
structure PsP (L:List (List C)) (ns:Int):Prop where
 l:Rw fWd JaS L
 n:L.length<=1000
 s:0<=ns/\ns<=100
def psH:Hy:=⟨hPS,[],[(6,[(11,4)])],[]⟩
theorem Jf7 {L:List (List C)}{ns:Int}(h:PsP L ns):Tot T1 (mkc rTE b0 (fun x _=>PsR L ns x.1 x.2.1 x.2.2) True) 23 [.pl (.c (.r false 4 L)),pI ns]:=vR psH (Jel 100000) [] [false,false,false] Tryz.func23 (PrP 100000 12 {L:=L,nx:=0,op:=0,ns:=ns,ps:=[],er:=0,pl:=0}/\∀(x:Int × PS),Pr Lv.e {L:=L,nx:=0,op:=0,ns:=ns,ps:=[],er:=0,pl:=0} x.1 x.2->WdP x.2/\∀(x_1:WdS × PS),TkR (wnB x.2 0) x_1.1 x_1.2->br (decide (x_1.2.er≠0)) (PsR L ns [] x_1.2.er x_1.2.pl) (pln x_1.2.ps/\PsR L ns x_1.2.ps 0 0)) (by kernel_rfl) (by
 obtain⟨hl,hn,hs⟩:=h
 have i0:PsI ⟨L,0,0,ns,[],0,0⟩:=⟨hl,hn,by dsimp only;omega,by dsimp only;omega,fun _=>hs.1,hs.2,Rw.nil,by simp only[List.length_nil];omega,fun q=>absurd rfl q,.inl rfl⟩
 refine⟨⟨i0,by unfold lft;dsimp only;omega⟩,fun⟨x,s1⟩ p=>⟨p.q.i.w,fun⟨w,s2⟩ ⟨e1,e2⟩=>?_⟩⟩
 dsimp only at p e2 ⊢
 subst e2;have d:=p.d rfl;have eS:suf ⟨L,0,0,ns,[],0,0⟩=L.map wdE:=rfl;rw[eS,show(⟨L,0,0,ns,[],0,0⟩:PS).ns-(⟨L,0,0,ns,[],0,0⟩:PS).op=ns from Int.sub_zero ns]at d;have G:s1.L=L:=p.q.L;have hd:=(Jaf p.q.i.w).1
 have n0:∀e:Int,(∀t r,Pa ns .e (L.map wdE) t r->hk r≠0)->e≠0->∀a,(a=0\/∃x,fWd.f x ∈ L/\a=x.a)->PsR L ns [] e a:=fun e h1 h2 a h3=>⟨Rw.nil,by simp,fun q=>absurd q h2,fun _=>⟨h1,h3⟩⟩
 by_cases k0:(wdA s1).k=0
 .have ew:wnB s1 0=s1:=if_pos k0
  rw[ew];refine⟨fun hb=>n0 _ (fun t r q=>?_) (dt hb) _ (by have:=p.q.i.pl;rw[G]at this;exact this),fun hb=>?_⟩
  .rcases d with⟨E,_⟩|⟨_,B⟩
   .exact absurd E (dt hb)
   .exact absurd q (B t r)
  .have z:s1.er=0:=Decidable.not_not.1 (df hb)
   have pn:=p.q.i.pn
   rcases d with⟨_,t,B,M,J⟩|⟨E,_⟩
   .exact⟨List.all_eq_true.2 fun e he=>by
     obtain⟨y,rfl,_⟩:=p.q.i.ps e he
     rfl,p.q.i.ps,by show s1.ps.length<=_;omega,fun _=>⟨rfl,t,_,B,hd.trans k0,J⟩,fun q=>absurd rfl q⟩
   .exact absurd z E
 .have ew:wnB s1 0=flS s1 4:=if_neg k0
  rw[ew];obtain⟨a,b⟩:=p.q.i.fl (e:=4) (by omega);refine⟨fun hb=>n0 _ (fun t r q=>?_) (dt hb) _ (by have:=a.pl;rw[show(flS s1 4).L=L from G]at this;exact this),fun hb=>absurd (Decidable.not_not.1 (df hb)) b⟩
  rcases d with⟨_,O,B,_⟩|⟨_,B⟩
  .obtain⟨_,rfl⟩:=Pa.det B q
   rw[hd];exact k0
  .exact absurd q (B t r))
end V
end Go.Proofs.YtnhbcdnmfafbiaaGreatDoor
