import Derived.Test.YtnhbcdnmfafbiaaGreatDoorM20
set_option linter.unusedVariables false
set_option linter.unusedSimpArgs false
set_option maxHeartbeats 20000000
namespace Go.Proofs.YtnhbcdnmfafbiaaGreatDoor
namespace V
theorem Jdz:∀(n:Nat) (ws:List Wd),Wns ws->ws=(nmL n ws).1.map sW ++(nmL n ws).2/\(nmL n ws).1.length<=n
 |0,ws,_=>⟨rfl,Nat.le_refl _⟩
 |n+1,ws,h=>by
  unfold nmL
  split
  .rename_i hk2
   have ih:=Jdz n ws.tail h.tl;refine⟨?_,by have:=ih.2;simp only[List.length_cons];omega⟩;rw[List.map_cons,List.cons_append,<-ih.1];exact JaQ hk2 h
  .exact⟨rfl,by simp⟩
theorem Jev:∀(n:Nat) (ws:List Wd) {l:List ByteArray}{r:List Wd},Wns ws->cmL n ws=some (l,r)->ws=(l.flatMap fun x=>[wK 25,sW x]) ++r/\l.length<=n
 |0,ws,l,r,_,h=>by cases h;exact⟨rfl,Nat.le_refl _⟩
 |n+1,ws,l,r,hw,h=>by
  unfold cmL at h
  split at h
  .rename_i h25
   split at h
   .rename_i h2
    split at h
    .rename_i l' r' hc
     cases h;have ih:=Jev n _ hw.tl.tl hc;refine⟨?_,by have:=ih.2;simp only[List.length_cons];omega⟩;rw[List.flatMap_cons,List.append_assoc,<-ih.1];have B:=JaG h25 (by omega) (by omega) (by omega) hw;have E:=JaQ h2 hw.tl;exact B.trans (congrArg _ E)
    .cases h
   .cases h
  .cases h;exact⟨rfl,by simp⟩
theorem Jdm {ws:List Wd}{l:List ByteArray}{r:List Wd}(B:Wns ws) (h:prF ws=some (l,r)):ws=l.map sW ++r/\1<=l.length/\l.length<=4:=by
 unfold prF at h
 split at h
 .rename_i h2
  cases h;have a:=Jdz 3 ws.tail B.tl;refine⟨?_,by simp,by have:=a.2;simp only[List.length_cons];omega⟩;rw[List.map_cons,List.cons_append,<-a.1];exact JaQ h2 B
 .cases h
theorem Jcq:∀(x:ByteArray) (l:List ByteArray),jn [wK 25] ((x ::l).map fun x=>[sW x])=sW x ::l.flatMap fun x=>[wK 25,sW x]
 |x,[]=>rfl
 |x,y ::l=>by
  have:=Jcq y l;rw[List.map_cons]at this;rw[List.map_cons,List.map_cons,Jax,this];rfl
theorem JgJ {d:Int}{ws:List Wd}{k:Int}{l:List ByteArray}{r:List Wd}(hd:0<=d) (B:Wns ws) (h:lhF d ws=some (k,l,r)):ws=lnW k l ++r/\Sh k 3 0 l 2/\nb k<=d/\rk k=0:=by
 unfold lhF at h
 split at h
 .rename_i h4
  split at h
  .rename_i l' r' hf
   cases h;unfold fnF at hf
   split at hf
   .rename_i h2
    split at hf
    .rename_i l2 r2 hp
     cases hf;have a:=Jdm B.tl.tl hp;refine⟨?_,.letr (by simp only[List.length_cons];omega) (by simp only[List.length_cons];omega),hd,rfl⟩;have G:=JaG h4 (by omega) (by omega) (by omega) B;have E:=JaQ h2 B.tl;rw[a.1]at E;exact G.trans (congrArg _ E)
    .cases hf
   .cases hf
  .cases h
 .split at h
  .rename_i h23
   split at h
   .rename_i l' r' hf
    cases h;unfold tpF at hf
    split at hf
    .rename_i hc
     obtain⟨_,c2,P,V,Y⟩:=hc
     split at hf
     .rename_i l2 r2 hm
      split at hf
      .rename_i h24
       cases hf;have J:=B.tl.tl.tl.tl;have a:=Jev 4 _ J hm;have G:=JaG h23 (by omega) (by omega) (by omega) B;have E:=JaQ P B.tl;have M:=JaG V (by omega) (by omega) (by omega) B.tl.tl;have O:=JaQ Y B.tl.tl.tl;have Z:=JaG h24 (by omega) (by omega) (by omega) (by rw[a.1]at J;exact J.app);refine⟨?_,.lett (by simp) (by simp only[List.length_cons];omega),by show(1:Int)<=d;omega,rfl⟩;show ws=wK 23 ::(jn [wK 25] _ ++[wK 24]) ++_;rw[Jcq,List.flatMap_cons];rw[a.1,Z]at O;rw[O]at M;rw[M]at E;rw[E]at G;exact G.trans (by simp)
      .cases hf
     .cases hf
    .cases hf
   .cases h
  .split at h
   .rename_i h2
    cases h;exact⟨JaQ h2 B,.let1 _,hd,rfl⟩
   .cases h
def Sd (d:Int) (lv:Lv) (ws:List Wd) (t:Te) (r:List Wd):Prop:=match lv with
 | .e| .q=>∃u,ws=u ++r/\Gr d 0 t u
 | .c=>∃u,ws=u ++r/\Gr d 1 t u
 | .s=>∃u,ws=u ++r/\Gr d 2 t u
 | .p=>∃u,ws=u ++r/\Gr d 3 t u
 | .u=>∃u,ws=u ++r/\Gr d 4 t u
 | .k=>∃u,ws=u ++r/\Gr d 5 t u
 | .o=>∃u,ws=u ++r/\Gr d 6 t u
 | .a=>∃u,ws=u ++r/\Gr d 7 t u
 | .sl a=>∀u0,Gr d 2 a u0->∃u,ws=u ++r/\Gr d 2 t (u0 ++u)
 | .pl a=>∀u0,Gr d 3 a u0->∃u,ws=u ++r/\Gr d 3 t (u0 ++u)
 | .ol a=>∀u0,Gr d 6 a u0->∃u,ws=u ++r/\Gr d 6 t (u0 ++u)
 | .kl ts=>∀us,Gk d 6 ts us->1<=ts.length->ts.length<=5->∃u,ws=u ++r/\Gr d 5 t (jn [] us ++u)
 | .fl n k w ts=>∀us,Gk d 6 ts us->Sh k w 0 [] n->rk k=5->w≠0->ts.length<=n->∃u,ws=u ++r/\Gr d 5 t (wK w ::(jn [] us ++u))
 | .tl ts=>∀us,Gk (d-1) 0 ts us->1<=ts.length->ts.length<=6->0<d->∃u,ws=u ++r/\Gr d 7 t (wK 23 ::(jn [wK 25] us ++u))
def Sds (R:Rel):Prop:=∀{d lv ws t r},0<=d->Wns ws->R d lv ws t r->Sd d lv ws t r
theorem JdO (us:List (List Wd)) (v:List Wd):jn [] (us ++[v])=jn [] us ++v:=by
 cases us with
 |nil=>rfl
 |cons u us=>rw[JbI [] v (by simp)];rfl
theorem Jap {ws u r:List Wd}(h:Wns ws) (e:ws=u ++r):Wns r:=by rw[e]at h;exact h.app
theorem Gr.bin {d k w:Int}{a b:Te}{u v:List Wd}(h:Sh k w 0 [] 2) (hn:k=15\/k=16\/k=17\/k=18) (hd:0<=d) (B:Gr d (wnt k 0) a u) (h2:Gr d (wnt k 1) b v):Gr d (rk k) (.n k w 0 [] [a,b]) (u ++wK w ::v):=by
 have e:brF k w 0 [] [u,v]=u ++wK w ::v:=by rcases hn with rfl|rfl|rfl|rfl <;> rfl
 rw[<-e];have b0:∀i,bk k i=0:=fun i=>by rcases hn with rfl|rfl|rfl|rfl <;> rfl
 exact Gr.n2 h (by rcases hn with rfl|rfl|rfl|rfl <;> exact hd) (by rw[b0,Int.sub_zero];exact B) (by rw[b0,Int.sub_zero];exact h2)
theorem JdV {k:Int}(h:jm6 k=true):k≠0/\k≠1/\k≠2:=by
 unfold jm6 at h;simp at h;omega
theorem JdW {k:Int}(h:Jal k=true):k≠0/\k≠1/\k≠2:=by
 unfold Jal at h;simp at h;omega
theorem JdY {k:Int}(h:jnJ k=true):k≠0/\k≠1/\k≠2:=by
 unfold jnJ at h;simp at h;omega
theorem Jaq {ws:List Wd}{k:Int}(h:hk ws=k) (B:Wns ws) (h0:k≠0/\k≠1/\k≠2) {u r:List Wd}(e:ws.tail=u ++r):ws=(wK k ::u) ++r:=by
 rw[List.cons_append,<-e];exact JaG h h0.1 h0.2.1 h0.2.2 B
theorem Sds.st {R:Rel}(ih:Sds R):Sds (St1 R):=by
 intro d lv ws t r hd E h
 have up:∀{lv':Lv}{a b:Nat},b<=a->(∃u,ws=u ++r/\Gr d a t u)->∃u,ws=u ++r/\Gr d b t u:=fun hab ⟨u,e,g⟩=>⟨u,e,.up hab g⟩
 cases lv with
 |e=>
  unfold St1 at h;simp only at h
  split at h
  .rename_i h3
   obtain⟨k,ns,r0,M,a2,a,V,a3,a4,b,a5,rfl⟩:=h;obtain⟨e0,sh,hn,Y⟩:=JgJ hd E.tl M;have w0:=Jap E.tl e0;obtain⟨u1,B,G⟩:=ih hd w0.tl a3;have w1:=Jap w0.tl B;obtain⟨u2,O,J⟩:=ih hd w1.tl a5;have P:=Jaq a2 w0 (by omega) B;have Z:=Jaq a4 w1 (by omega) O
   have b0:∀i,d-bk k i=d/\wnt k i=0/\brF k 3 0 ns [u1,u2]=wK 3 ::(lnW k ns ++wK 27 ::(u1 ++wK 5 ::u2)):=fun i=>by
    cases sh <;> first|exact⟨Int.sub_zero d,rfl,rfl⟩|cases Y
   have g:=Gr.n2 sh hn (a:=a) (b:=b) (u:=u1) (v:=u2) (by rw[(b0 0).1,(b0 0).2.1];exact G) (by rw[(b0 1).1,(b0 1).2.1];exact J);rw[Y,(b0 0).2.2]at g;refine⟨_,?_,g⟩;have c0:=Jaq h3 E (by omega) e0;refine c0.trans ?_;rw[P,Z];simp
  .split at h
   .rename_i h6
    obtain⟨a,V,M,a2,b,r2,a3,a4,c,a5,rfl⟩:=h;obtain⟨u1,B,G⟩:=ih hd E.tl M;have w1:=Jap E.tl B;obtain⟨u2,O,J⟩:=ih hd w1.tl a3;have w2:=Jap w1.tl O;obtain⟨u3,e3,g3⟩:=ih hd w2.tl a5;have Z:=Jaq a2 w1 (by omega) O;have c3:=Jaq a4 w2 (by omega) e3;have g:=Gr.n3 Sh.ite (d:=d) hd (a:=a) (b:=b) (c:=c) (u:=u1) (v:=u2) (z:=u3) (by rw[show d-bk 11 0=d from Int.sub_zero d];exact G) (by rw[show d-bk 11 1=d from Int.sub_zero d];exact J) (by rw[show d-bk 11 2=d from Int.sub_zero d];exact g3);refine⟨_,?_,g⟩;have c0:=Jaq h6 E (by omega) B;refine c0.trans ?_;rw[Z,c3];show _=(wK 6 ::(u1 ++wK 7 ::(u2 ++wK 8 ::u3))) ++r;simp
   .split at h
    .rename_i h9
     obtain⟨ns,r0,M,a2,a,a3,rfl⟩:=h;obtain⟨e0,n1,n4⟩:=Jdm E.tl M;have w0:=Jap E.tl e0;obtain⟨u1,B,G⟩:=ih hd w0.tl a3;have P:=Jaq a2 w0 (by omega) B;have g:=Gr.n1 (Sh.fn n1 n4) (d:=d) hd (a:=a) (u:=u1) (by rw[show d-bk 12 0=d from Int.sub_zero d];exact G);refine⟨_,?_,g⟩;have c0:=Jaq h9 E (by omega) e0;refine c0.trans ?_;rw[P];show _=(wK 9 ::(ns.map sW ++wK 22 ::u1)) ++r;simp
    .exact(ih hd E h:Sd d .q ws t r)
 |q=>
  obtain⟨a,V,M,a2⟩:=h;obtain⟨u1,B,G⟩:=ih hd E M
  split at a2
  .rename_i h26
   obtain⟨b,b1,rfl⟩:=a2;have w1:=Jap E B;obtain⟨u2,O,J⟩:=ih hd w1.tl b1;have Z:=Jaq h26 w1 (by omega) O;exact⟨_,by rw[B,Z,List.append_assoc],Gr.bin .seq (by simp) hd G J⟩
  .obtain⟨rfl,rfl⟩:=a2
   exact⟨u1,B,.up (by omega) G⟩
 |c=>
  obtain⟨a,V,M,a2⟩:=h;obtain⟨u1,B,G⟩:=ih hd E M
  split at a2
  .rename_i hc
   obtain⟨b,b1,rfl⟩:=a2;have w1:=Jap E B;obtain⟨u2,O,J⟩:=ih hd w1.tl b1;have Z:=Jaq rfl w1 (JdY hc) O;exact⟨_,by rw[B,Z,List.append_assoc];rfl,Gr.bin (.cmp hc) (by simp) hd G J⟩
  .obtain⟨rfl,rfl⟩:=a2
   exact⟨u1,B,.up (by omega) G⟩
 |s=>
  obtain⟨a,V,M,a2⟩:=h;obtain⟨u1,B,G⟩:=ih hd E M;obtain⟨u2,O,J⟩:=ih hd (Jap E B) a2 u1 (.up (by omega) G);exact⟨_,by rw[B,O,List.append_assoc],J⟩
 |p=>
  obtain⟨a,V,M,a2⟩:=h;obtain⟨u1,B,G⟩:=ih hd E M;obtain⟨u2,O,J⟩:=ih hd (Jap E B) a2 u1 (.up (by omega) G);exact⟨_,by rw[B,O,List.append_assoc],J⟩
 |o=>
  obtain⟨a,V,M,a2⟩:=h;obtain⟨u1,B,G⟩:=ih hd E M;obtain⟨u2,O,J⟩:=ih hd (Jap E B) a2 u1 (.up (by omega) G);exact⟨_,by rw[B,O,List.append_assoc],J⟩
 |sl a=>
  intro u0 g0;unfold St1 at h;simp only at h
  split at h
  .rename_i hc
   obtain⟨b,V,M,a2⟩:=h;obtain⟨u1,B,G⟩:=ih hd E.tl M;have P:=Jaq rfl E (JdV hc) B;obtain⟨u2,O,J⟩:=ih hd (Jap E.tl B) a2 _ (Gr.bin (.sum hc) (by simp) hd g0 G);exact⟨(wK (hk ws) ::u1) ++u2,by rw[O]at P;rw[List.append_assoc];exact P,by rw[List.append_assoc]at J;exact J⟩
  .obtain⟨rfl,rfl⟩:=h
   exact⟨[],rfl,by rw[List.append_nil];exact g0⟩
 |pl a=>
  intro u0 g0;unfold St1 at h;simp only at h
  split at h
  .rename_i hc
   obtain⟨b,V,M,a2⟩:=h;obtain⟨u1,B,G⟩:=ih hd E.tl M;have P:=Jaq rfl E (JdW hc) B;obtain⟨u2,O,J⟩:=ih hd (Jap E.tl B) a2 _ (Gr.bin (.prd hc) (by simp) hd g0 G);exact⟨(wK (hk ws) ::u1) ++u2,by rw[O]at P;rw[List.append_assoc];exact P,by rw[List.append_assoc]at J;exact J⟩
  .obtain⟨rfl,rfl⟩:=h
   exact⟨[],rfl,by rw[List.append_nil];exact g0⟩
 |u=>
  unfold St1 at h;simp only at h
  split at h
  .rename_i hc
   obtain⟨b,M,rfl⟩:=h;obtain⟨u1,B,G⟩:=ih hd E.tl M;exact⟨_,Jaq hc E (by omega) B,Gr.n1 .neg hd (by rw[show d-bk 13 0=d from Int.sub_zero d];exact G)⟩
  .split at h
   .rename_i hc
    obtain⟨b,M,rfl⟩:=h;obtain⟨u1,B,G⟩:=ih hd E.tl M;exact⟨_,Jaq hc E (by omega) B,Gr.n1 .nt hd (by rw[show d-bk 14 0=d from Int.sub_zero d];exact G)⟩
   .obtain⟨u1,B,G⟩:=ih hd E h
    exact⟨u1,B,.up (by omega) G⟩
 |k=>
  have pf:∀{n k w},Sh k w 0 [] n->rk k=5->hk ws=w->(w≠0/\w≠1/\w≠2)->R d (.fl n k w []) ws.tail t r->∃u,ws=u ++r/\Gr d 5 t u:=fun {n k w} sh Y hh h0 hR=>by
   obtain⟨u1,B,G⟩:=ih hd E.tl hR [] Gk.nil sh Y h0.1 (Nat.zero_le _);exact⟨_,Jaq hh E h0 B,G⟩
  unfold St1 JaK at h;simp only at h
  split at h
  .rename_i hc;exact pf .prn rfl hc (by omega) h
  .split at h
   .rename_i hc;exact pf .len rfl hc (by omega) h
   .split at h
    .rename_i hc;exact pf .arr rfl hc (by omega) h
    .split at h
     .rename_i hc;exact pf .put rfl hc (by omega) h
     .obtain⟨a,V,M,a2⟩:=h
      obtain⟨u1,B,G⟩:=ih hd E M;obtain⟨u2,O,J⟩:=ih hd (Jap E B) a2 [u1] (Gk.of1 G) (by simp) (by simp);exact⟨_,by rw[B,O,List.append_assoc];rfl,J⟩
 |kl ts=>
  intro us g0 n1 n5;unfold St1 at h;simp only at h
  split at h
  .rename_i hc
   obtain⟨b,V,M,a2⟩:=h;obtain⟨u1,B,G⟩:=ih hd E M;obtain⟨u2,O,J⟩:=ih hd (Jap E B) a2 _ (g0.snoc G) (by simp) (by simp;omega);rw[JdO,List.append_assoc]at J;exact⟨_,by rw[B,O,List.append_assoc],J⟩
  .obtain⟨rfl,rfl⟩:=h
   refine⟨[],rfl,?_⟩;rw[List.append_nil]
   match ts,us,g0,n1 with
   |[a],[u],g0,_=>exact .up (by omega) (g0.k 0 a u rfl rfl)
   |a ::b ::ts,us,g0,_=>
    exact Gr.row (k:=19) (w:=0) g0 (.call (by simp) n5) hd (fun i=>Int.sub_zero d) (fun i=>rfl)
   |[a],[],g0,_=>exact absurd g0.l (by simp)
   |[a],_ ::_ ::_,g0,_=>exact absurd g0.l (by simp)
 |fl n k w ts=>
  intro us g0 sh Y h0 hn;unfold St1 at h;simp only at h
  split at h
  .rename_i hc
   obtain⟨b,V,M,a2⟩:=h;obtain⟨u1,B,G⟩:=ih hd E M;obtain⟨u2,O,J⟩:=ih hd (Jap E B) a2 _ (g0.snoc G) sh Y h0 (by simp;omega);rw[JdO,List.append_assoc]at J;exact⟨_,by rw[B,O,List.append_assoc],J⟩
  .rename_i hc
   obtain⟨rfl,rfl⟩:=h;have el:n=ts.length:=by omega
   refine⟨[],rfl,?_⟩;rw[List.append_nil]
   have e:brF k w 0 [] us=wK w ::jn [] us/\(∀i,wnt k i=6)/\(∀i,d-bk k i=d)/\nb k=0:=by
    cases sh <;> first|exact absurd Y (by decide)|exact absurd rfl h0|exact⟨rfl,fun _=>rfl,fun _=>Int.sub_zero d,rfl⟩
   subst el;have g:=Gr.row g0 sh (d':=d) (by rw[e.2.2.2];exact hd) e.2.2.1 e.2.1;rw[Y,e.1]at g;exact g
 |ol a=>
  intro u0 g0;unfold St1 at h;simp only at h
  split at h
  .rename_i hc
   obtain⟨d0,b,V,M,a2,a3⟩:=h;obtain⟨u1,B,G⟩:=ih (by omega) E.tl M;have w1:=Jap E.tl B;have g:=Gr.n2 (d:=d) Sh.idx (by show(1:Int)<=d;omega) (a:=a) (b:=b) (u:=u0) (v:=u1) (by rw[show d-bk 20 0=d from Int.sub_zero d];exact g0) G;obtain⟨u2,O,J⟩:=ih hd w1.tl a3 _ g;have Z:=Jaq a2 w1 (by omega) O;have P:=Jaq hc E (by omega) B;refine⟨wK 18 ::(u1 ++wK 24 ::u2),?_,?_⟩
   .refine P.trans ?_
    rw[Z];simp
   .have eq:brF 20 18 0 [] [u0,u1] ++u2=u0 ++(wK 18 ::(u1 ++wK 24 ::u2)):=by
     show(u0 ++([wK 18] ++u1)) ++[wK 24] ++u2=_;simp
    rw[eq]at J;exact J
  .obtain⟨rfl,rfl⟩:=h
   exact⟨[],rfl,by rw[List.append_nil];exact g0⟩
 |a=>
  unfold St1 JaC at h;simp only at h
  have lf:∀{k w:Int},Sh k w 0 [] 0->rk k=7->nb k=0->brF k w 0 [] []=[wK w]->hk ws=w->(w≠0/\w≠1/\w≠2)->r=ws.tail/\t= .n k w 0 [] []->∃u,ws=u ++r/\Gr d 7 t u:=fun {k w} sh Y hn hb hh h0 ⟨h1,h2⟩=>by
   subst h1 h2;have g:=Gr.leaf sh (d:=d) (by rw[hn];exact hd);rw[Y,hb]at g;exact⟨_,JaG hh h0.1 h0.2.1 h0.2.2 E,g⟩
  split at h
  .rename_i hc
   obtain⟨rfl,rfl⟩:=h;exact⟨_,hk_n hc E,Gr.leaf (.num _) hd⟩
  .split at h
   .rename_i hc
    obtain⟨rfl,rfl⟩:=h;exact⟨_,JaQ hc E,Gr.leaf (.nm _) hd⟩
   .split at h
    .rename_i hc;exact lf .tru rfl rfl rfl hc (by omega) h
    .split at h
     .rename_i hc;exact lf .fls rfl rfl rfl hc (by omega) h
     .split at h
      .rename_i hc;exact lf .rd rfl rfl rfl hc (by omega) h
      .split at h
       .rename_i hc
        obtain⟨d0,h⟩:=h;have c0:=JaG hc (by omega) (by omega) (by omega) E
        split at h
        .rename_i h24
         obtain⟨rfl,rfl⟩:=h;have P:=JaG h24 (by omega) (by omega) (by omega) E.tl;exact⟨[wK 23,wK 24],c0.trans (congrArg _ P),Gr.leaf .unt (by show(1:Int)<=d;omega)⟩
        .obtain⟨a,V,M,a2⟩:=h
         obtain⟨u1,B,G⟩:=ih (by omega) E.tl M;obtain⟨u2,O,J⟩:=ih hd (Jap E.tl B) a2 [u1] (Gk.of1 G) (by simp) (by simp) d0;refine⟨_,?_,J⟩;refine c0.trans ?_;rw[B,O];show _=wK 23 ::(u1 ++u2) ++r;simp
       .exact h.elim
 |tl ts=>
  intro us g0 n1 n6 d0;unfold St1 at h;simp only at h
  split at h
  .rename_i hc
   obtain⟨b,V,M,a2⟩:=h;obtain⟨u1,B,G⟩:=ih (by omega) E.tl M;obtain⟨u2,O,J⟩:=ih hd (Jap E.tl B) a2 _ (g0.snoc G) (by simp) (by simp;omega) d0;have P:=Jaq hc.2 E (by omega) B;rw[JbI [wK 25] u1 (fun e=>by subst e;have:=g0.l;simp at this;omega)]at J;refine⟨wK 25 ::(u1 ++u2),?_,?_⟩
   .refine P.trans ?_
    rw[O];simp
   .have e:jn [wK 25] us ++([wK 25] ++u1) ++u2=jn [wK 25] us ++(wK 25 ::(u1 ++u2)):=by simp
    rw[e]at J;exact J
  .obtain⟨h24,rfl,rfl⟩:=h
   refine⟨[wK 24],JaG h24 (by omega) (by omega) (by omega) E,?_⟩
   match ts,us,g0,n1 with
   |[a],[u],g0,_=>exact .br d0 (g0.k 0 a u rfl rfl)
   |a ::b ::ts,us,g0,_=>exact Gr.row (k:=7) (w:=0) g0 (.tup (by simp) n6) (by show(1:Int)<=d;omega) (fun i=>rfl) (fun i=>rfl)
   |[a],[],g0,_=>exact absurd g0.l (by simp)
   |[a],_ ::_ ::_,g0,_=>exact absurd g0.l (by simp)
theorem JdR:∀n,Sds (itR n)
 |0=>fun _ _ h=>h.elim
 |n+1=>Sds.st (JdR n)
theorem Pa.sd:Sds Pa:=fun hd hw ⟨n,h⟩=>JdR n hd hw h
end V
end Go.Proofs.YtnhbcdnmfafbiaaGreatDoor
