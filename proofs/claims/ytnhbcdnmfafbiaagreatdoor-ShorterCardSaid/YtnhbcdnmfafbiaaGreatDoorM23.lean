import Derived.Test.YtnhbcdnmfafbiaaGreatDoorM22
set_option linter.unusedVariables false
set_option linter.unusedSimpArgs false
set_option maxHeartbeats 20000000
namespace Go.Proofs.YtnhbcdnmfafbiaaGreatDoor
namespace V
theorem Jbe (u:List Wd) (us:List (List Wd)):jn [] (u ::us)=u ++jn [] us:=by
 cases us with
 |nil=>exact(List.append_nil u).symm
 |cons v us=>rfl
theorem Jbp {d:Int}{rest:List Wd}{n:Nat}{k w:Int}(f:hk rest≠18):∀{ts:List Te}{us:List (List Wd)}(t0:List Te),us.length=ts.length->(∀(i:Nat) (t:Te) (u:List Wd),ts[i]? =some t->us[i]? =some u->Cp d 6 t u/\Hd 6 u)->t0.length+ts.length=n->Pa d (.fl n k w t0) (jn [] us ++rest) (.n k w 0 [] (t0 ++ts)) rest
 |[],[],t0,_,_,hn=>.mk (by unfold St1;simp only;rw[if_neg (by simp at hn;omega),List.append_nil];exact⟨rfl,rfl⟩)
 |t ::ts,u ::us,t0,hl,h,hn=>by
  obtain⟨E,h2⟩:=h 0 t u rfl rfl;rw[Jbe,List.append_assoc]
  have x:hk (jn [] us ++rest)≠18:=by
   cases us with
   |nil=>exact f
   |cons v us=>
    cases ts with
    |nil=>simp at hl
    |cons t' ts=>
     obtain⟨_,g⟩:=h 1 t' v rfl rfl;have B:=g.h;rw[Jbe,List.append_assoc,jqz g.n];unfold hdP at B;omega
  have ih:=Jbp f (k:=k) (w:=w) (n:=n) (t0 ++[t]) (ts:=ts) (us:=us) (by simp at hl;exact hl) (fun i t u a b=>h (i+1) t u a b) (by simp at hn ⊢;omega);rw[List.append_assoc]at ih;refine .mk ?_;unfold St1;simp only;rw[if_pos (by simp at hn;omega)];exact⟨t,_,Cp.o E x,ih⟩
 |[],_ ::_,_,hl,_,_=>absurd hl (by simp)
 |_ ::_,[],_,hl,_,_=>absurd hl (by simp)
theorem JdN (s:List Wd):∀(u:List Wd) (us:List (List Wd)),jn s (u ::us)=u ++us.flatMap (s ++·)
 |u,[]=>(List.append_nil u).symm
 |u,v ::us=>by rw[Jax,JdN s v us,List.flatMap_cons,List.append_assoc]
theorem JaH {k:Int}(h:k=5\/k=7\/k=8\/k=24\/k=25\/k=0):Fo 0 k:=by
 rcases h with rfl|rfl|rfl|rfl|rfl|rfl <;> exact⟨by decide,fun _=>rfl,fun _=>rfl,fun _=>rfl,fun _=>rfl,fun _=>by decide⟩
theorem Jca {d:Int}{rest:List Wd}:∀{ts:List Te}{us:List (List Wd)}(t0:List Te),us.length=ts.length->(∀(i:Nat) (t:Te) (u:List Wd),ts[i]? =some t->us[i]? =some u->Cp (d-1) 0 t u)->t0.length+ts.length<=6->Pa d (.tl t0) (us.flatMap ([wK 25] ++·) ++(wK 24 ::rest)) (JaJ 7 (t0 ++ts)) rest
 |[],[],t0,_,_,hn=>.mk (by unfold St1;simp only;rw[if_neg (fun e=>absurd e.2 (show ¬(24:Int)=25 by decide)),List.append_nil];exact⟨rfl,rfl,rfl⟩)
 |t ::ts,u ::us,t0,hl,h,hn=>by
  have B:=h 0 t u rfl rfl;rw[List.flatMap_cons]
  have x:Fo 0 (hk (us.flatMap ([wK 25] ++·) ++(wK 24 ::rest))):=by
   cases us with
   |nil=>exact JaH (by simp[hk,wK])
   |cons v us=>exact JaH (by simp[hk,wK])
  have ih:=Jca (d:=d) (rest:=rest) (t0 ++[t]) (ts:=ts) (us:=us) (by simp at hl;exact hl) (fun i t u a b=>h (i+1) t u a b) (by simp at hn ⊢;omega);rw[List.append_assoc]at ih;refine .mk ?_;unfold St1;simp only;rw[if_pos ⟨by simp at hn;omega,rfl⟩];refine⟨t,_,?_,ih⟩;have:=B _ x;simpa using this
 |[],_ ::_,_,hl,_,_=>absurd hl (by simp)
 |_ ::_,[],_,hl,_,_=>absurd hl (by simp)
theorem JdA {r:List Wd}(h:hk r≠2):∀(ns:List ByteArray) (n:Nat),ns.length<=n->nmL n (ns.map sW ++r)=(ns,r)
 |[],0,_=>rfl
 |[],n+1,_=>by unfold nmL;rw[List.map_nil,List.nil_append,if_neg h]
 |x ::ns,0,hn=>absurd hn (by simp)
 |x ::ns,n+1,hn=>by
  have e:nmL (n+1) (sW x ::(ns.map sW ++r))=(x ::(nmL n (ns.map sW ++r)).1,(nmL n (ns.map sW ++r)).2):=rfl;rw[List.map_cons,List.cons_append,e,JdA h ns n (by simp at hn;exact hn)]
theorem Jew {r:List Wd}(h:hk r≠25):∀(ns:List ByteArray) (n:Nat),ns.length<=n->cmL n ((ns.flatMap fun x=>[wK 25,sW x]) ++r)=some (ns,r)
 |[],0,_=>rfl
 |[],n+1,_=>by unfold cmL;rw[List.flatMap_nil,List.nil_append,if_neg h]
 |x ::ns,0,hn=>absurd hn (by simp)
 |x ::ns,n+1,hn=>by
  have ih:=Jew h ns n (by simp at hn;exact hn)
  have e:∀l,cmL (n+1) (wK 25 ::sW x ::l)=match cmL n l with
   |some (l,r)=>some (x ::l,r)
   |none=>none:=fun l=>rfl
  rw[List.flatMap_cons,List.append_assoc];exact(e (_ ++r)).trans (by rw[ih])
theorem Jdn {r:List Wd}(h:hk r≠2) {ns:List ByteArray}(B:1<=ns.length) (E:ns.length<=4):prF (ns.map sW ++r)=some (ns,r):=by
 cases ns with
 |nil=>simp at B
 |cons x ns=>
  have e:∀l,prF (sW x ::l)=some (x ::(nmL 3 l).1,(nmL 3 l).2):=fun l=>rfl;rw[List.map_cons,List.cons_append,e,JdA h ns 3 (by simp at E;omega)]
theorem JgK {d k:Int}{ns:List ByteArray}{r:List Wd}(sh:Sh k 3 0 ns 2) (hd:nb k<=d) (B:hk r=27):lhF d (lnW k ns ++r)=some (k,ns,r):=by
 generalize hm:(2:Nat)=m at sh;generalize hw:(3:Int)=w at sh
 cases sh with
 |let1 x=>rfl
 |letr h h'=>
  cases ns with
  |nil=>simp at h
  |cons x ns=>
   have e:∀l,lhF d (wK 4 ::sW x ::l)=match (match prF l with
    |some (l,r)=>some (x ::l,r)
    |none=>none) with
    |some (l,r)=>some (9,l,r)
    |none=>none:=fun l=>rfl
   refine(e (ns.map sW ++r)).trans ?_;rw[Jdn (by rw[B];decide) (by simp at h;omega) (by simp at h';omega)]
 |lett h h'=>
  match ns,h,h' with
  |x ::y ::ns,h,h'=>
   have e:lnW 10 (x ::y ::ns) ++r=wK 23 ::sW x ::wK 25 ::sW y ::((ns.flatMap fun x=>[wK 25,sW x]) ++wK 24 ::r):=by
    show wK 23 ::(jn [wK 25] _ ++[wK 24]) ++r=_;rw[Jcq,List.flatMap_cons];simp
   have hd:(1:Int)<=d:=hd
   have E:∀l,lhF d (wK 23 ::sW x ::wK 25 ::sW y ::l)=match tpF d (wK 23 ::sW x ::wK 25 ::sW y ::l) with
    |some (l,r)=>some (10,l,r)
    |none=>none:=fun l=>rfl
   rw[e,E];unfold tpF;rw[if_pos ⟨rfl,by omega,rfl,rfl,rfl⟩];simp only[List.tail_cons];rw[Jew (r:=wK 24 ::r) (by show(24:Int)≠25;decide) ns 4 (by simp at h';omega)];rfl
  |[x],h,_=>simp at h
  |[],h,_=>simp at h
 |prd h|sum h|cmp h=>subst hw;simp[Jal,jm6,jnJ]at h
 |_=>all_goals cases hw
theorem Jhb {w:Int}(h:jnJ w=true):Fo 2 w:=by
 unfold jnJ at h;simp only[Bool.or_eq_true,beq_iff_eq]at h;rcases h with((((rfl|rfl)|rfl)|rfl)|rfl)|rfl <;> exact⟨by decide,fun _=>rfl,fun _=>rfl,fun _=>rfl,fun h=>absurd h (by decide),fun h=>absurd h (by decide)⟩
theorem Jg9 {w:Int}(h:jm6 w=true):Fo 3 w:=by
 unfold jm6 at h;simp only[Bool.or_eq_true,beq_iff_eq]at h;rcases h with rfl|rfl <;> exact⟨by decide,fun _=>rfl,fun _=>rfl,fun h=>absurd h (by decide),fun h=>absurd h (by decide),fun h=>absurd h (by decide)⟩
theorem Jha {w:Int}(h:Jal w=true):Fo 4 w:=by
 unfold Jal at h;simp only[Bool.or_eq_true,beq_iff_eq]at h;rcases h with(rfl|rfl)|rfl <;> exact⟨by decide,fun _=>rfl,fun h=>absurd h (by decide),fun h=>absurd h (by decide),fun h=>absurd h (by decide),fun h=>absurd h (by decide)⟩
theorem ol_x {d:Int}{t a:Te}{u rest R:List Wd}{T:Te}(hd:0<d) (h:Cp (d-1) 0 a u) (hp:Pa d (.ol (.n 20 18 0 [] [t,a])) rest T R):Pa d (.ol t) (wK 18 ::(u ++wK 24 ::rest)) T R:=.mk (by
 unfold St1;simp only;rw[if_pos (show hk (wK 18 ::_)=18 from rfl)]
 exact⟨hd,a,_,h _ (JaH (by simp[hk,wK])),rfl,hp⟩)
theorem Cp.lets {d k:Int}{ns:List ByteArray}{a b:Te}{u v:List Wd}(sh:Sh k 3 0 ns 2) (hd:nb k<=d) (B:Cp d 0 a u) (h2:Cp d 0 b v):Cp d 0 (.n k 3 0 ns [a,b]) (wK 3 ::(lnW k ns ++wK 27 ::(u ++wK 5 ::v))):=fun rest f=>by
 have e:(wK 3 ::(lnW k ns ++wK 27 ::(u ++wK 5 ::v))) ++rest=wK 3 ::(lnW k ns ++(wK 27 ::(u ++wK 5 ::(v ++rest)))):=by simp
 rw[e];refine .mk ?_;unfold St1;simp only;rw[if_pos (show hk (wK 3 ::_)=3 from rfl)];exact⟨k,ns,_,JgK sh hd rfl,rfl,a,_,B _ (JaH (by simp[hk,wK])),rfl,b,h2 _ f,rfl⟩
theorem Cp.ite {d:Int}{a b c:Te}{u v z:List Wd}(B:Cp d 0 a u) (h2:Cp d 0 b v) (E:Cp d 0 c z):Cp d 0 (.n 11 6 0 [] [a,b,c]) (wK 6 ::(u ++wK 7 ::(v ++wK 8 ::z))):=fun rest f=>by
 have e:(wK 6 ::(u ++wK 7 ::(v ++wK 8 ::z))) ++rest=wK 6 ::(u ++(wK 7 ::(v ++wK 8 ::(z ++rest)))):=by simp
 rw[e];exact .mk ⟨a,_,B _ (JaH (by simp[hk,wK])),rfl,b,_,h2 _ (JaH (by simp[hk,wK])),rfl,c,E _ f,rfl⟩
theorem Cp.fn {d:Int}{ns:List ByteArray}(n1:1<=ns.length) (n4:ns.length<=4) {a:Te}{u:List Wd}(B:Cp d 0 a u):Cp d 0 (.n 12 9 0 ns [a]) (wK 9 ::(ns.map sW ++wK 22 ::u)):=fun rest f=>by
 have e:(wK 9 ::(ns.map sW ++wK 22 ::u)) ++rest=wK 9 ::(ns.map sW ++(wK 22 ::(u ++rest))):=by simp
 rw[e];exact .mk ⟨ns,_,Jdn (r:=wK 22 ::(u ++rest)) (by show(22:Int)≠2;decide) n1 n4,rfl,a,B _ f,rfl⟩
theorem Gr.cp {d:Int}{r:Nat}{t:Te}{u:List Wd}(h:Gr d r t u):Cp d r t u:=by
 induction h with
 |@up d r r' t u h hg ih=>
  obtain⟨j,rfl⟩:∃j,r'=r+j:=⟨r'-r,by omega⟩
  exact ih.down hg.hd hg.le7
 |@br d t u h hg ih=>
  intro rest;have e:(wK 23 ::(u ++[wK 24])) ++rest=wK 23 ::(u ++wK 24 ::rest):=by simp
  rw[e];refine .mk ?_;unfold St1 JaC;simp only;have B:hk (wK 23 ::(u ++wK 24 ::rest))=23:=rfl;have E:=hg.hd;have G:=E.h;rw[if_neg (by rw[B];decide),if_neg (by rw[B];decide),if_neg (by rw[B];decide),if_neg (by rw[B];decide),if_neg (by rw[B];decide),if_pos B];refine⟨h,?_⟩;rw[List.tail_cons,if_neg (by rw[jqz E.n];unfold hdP at G;omega)];exact⟨t,_,ih _ (JaH (by simp[hk,wK])),Jca (ts:=[]) (us:=[]) [t] rfl (fun i t u a=>by cases a) (by simp)⟩
 |@nd d k w m ns ks us sh hd hl hk0 ih=>
  have J:∀(i:Nat) (t:Te) (u:List Wd),ks[i]? =some t->us[i]? =some u->Hd (wnt k i) u:=fun i t u a b=>(hk0 i t u a b).hd;generalize hn:ks.length=n at sh hl
  have kid:∀(i:Nat) (t:Te) (u:List Wd),ks[i]? =some t->us[i]? =some u->bk k i=0->Cp d (wnt k i) t u:=fun i t u a b e=>by
   have:=ih i t u a b;rw[e,Int.sub_zero]at this;exact this
  have app:∀(u v r:List Wd) (w:Wd),(u ++([w] ++v)) ++r=u ++(w ::(v ++r)):=fun u v r w=>by simp
  cases sh with
  |num|nm|tru|fls|rd=>
   match ks,us,hn,hl with
   |[],[],_,_=>exact fun rest=>.mk ⟨rfl,rfl⟩
  |unt=>
   match ks,us,hn,hl with
   |[],[],_,_=>exact fun rest=>.mk ⟨by have:(1:Int)<=d:=hd;omega,rfl,rfl⟩
  |@tup n h h'=>
   have P:(1:Int)<=d:=hd
   match ks,us,hn,hl with
   |[],_,hn,_=>simp at hn;omega
   |a ::ks,[],hn,hl=>simp at hn hl;omega
   |a ::ks,u ::us,hn,hl=>
    intro rest
    have e:brF 7 0 0 [] (u ::us) ++rest=wK 23 ::(u ++(us.flatMap ([wK 25] ++·) ++(wK 24 ::rest))):=by
     show wK 23 ::(jn [wK 25] (u ::us) ++[wK 24]) ++rest=_;rw[JdN];simp
    rw[e];refine .mk ?_;unfold St1 JaC;simp only;have B:∀l,hk (wK 23 ::l)=23:=fun l=>rfl;have E:=J 0 a u rfl rfl;have G:=E.h;rw[if_neg (by rw[B];decide),if_neg (by rw[B];decide),if_neg (by rw[B];decide),if_neg (by rw[B];decide),if_neg (by rw[B];decide),if_pos (B _)];refine⟨by omega,?_⟩;rw[List.tail_cons,if_neg (by rw[jqz E.n];unfold hdP at G;omega)]
    have o:JaJ 7 ([a] ++ks)= .n 7 0 0 [] (a ::ks):=by
     cases ks with
     |nil=>simp at hn;omega
     |cons=>rfl
    refine⟨a,_,ih 0 a u rfl rfl _ ?_,?_⟩
    .cases us with
     |nil=>exact JaH (by simp[hk,wK])
     |cons v us=>exact JaH (by simp[hk,wK])
    .rw[<-o]
     exact Jca [a] (by simp at hn hl;omega) (fun i t u x y=>ih (i+1) t u x y) (by simp at hn ⊢;omega)
  |let1 x=>
   match ks,us,hn,hl with
   |[a,b],[u,v],_,_=>exact Cp.lets (.let1 x) hd (kid 0 a u rfl rfl rfl) (kid 1 b v rfl rfl rfl)
  |letr h h'=>
   match ks,us,hn,hl with
   |[a,b],[u,v],_,_=>exact Cp.lets (.letr h h') hd (kid 0 a u rfl rfl rfl) (kid 1 b v rfl rfl rfl)
  |lett h h'=>
   match ks,us,hn,hl with
   |[a,b],[u,v],_,_=>exact Cp.lets (.lett h h') hd (kid 0 a u rfl rfl rfl) (kid 1 b v rfl rfl rfl)
  |ite=>
   match ks,us,hn,hl with
   |[a,b,c],[u,v,y],_,_=>exact Cp.ite (kid 0 a u rfl rfl rfl) (kid 1 b v rfl rfl rfl) (kid 2 c y rfl rfl rfl)
  |fn h h'=>
   match ks,us,hn,hl with
   |[a],[u],_,_=>exact Cp.fn h h' (kid 0 a u rfl rfl rfl)
  |neg|nt=>
   match ks,us,hn,hl with
   |[a],[u],_,_=>exact fun rest f=>.mk ⟨a,kid 0 a u rfl rfl rfl rest f,rfl⟩
  |@prd w h=>
   match ks,us,hn,hl with
   |[a,b],[u,v],_,_=>
    intro rest T R f hp;have e:brF 15 w 0 [] [u,v] ++rest=u ++(wK w ::(v ++rest)):=app u v rest (wK w);rw[e];refine kid 0 a u rfl rfl rfl _ T R (Jha h) (.mk ?_);unfold St1;simp only;rw[if_pos (show Jal (hk (wK w ::_))=true from h)];exact⟨b,rest,kid 1 b v rfl rfl rfl rest f,hp⟩
  |@sum w h=>
   match ks,us,hn,hl with
   |[a,b],[u,v],_,_=>
    intro rest T R f hp;have e:brF 16 w 0 [] [u,v] ++rest=u ++(wK w ::(v ++rest)):=app u v rest (wK w);rw[e];refine kid 0 a u rfl rfl rfl _ T R (Jg9 h) (.mk ?_);unfold St1;simp only;rw[if_pos (show jm6 (hk (wK w ::_))=true from h)];exact⟨b,rest,Cp.p (kid 1 b v rfl rfl rfl) f,hp⟩
  |@cmp w h=>
   match ks,us,hn,hl with
   |[a,b],[u,v],_,_=>
    intro rest f;have e:brF 17 w 0 [] [u,v] ++rest=u ++(wK w ::(v ++rest)):=app u v rest (wK w);rw[e];refine .mk ⟨a,_,Cp.s (kid 0 a u rfl rfl rfl) (Jhb h),?_⟩;rw[if_pos (show jnJ (hk (wK w ::_))=true from h)];exact⟨b,Cp.s (kid 1 b v rfl rfl rfl) (f.mono (by omega)),rfl⟩
  |seq=>
   match ks,us,hn,hl with
   |[a,b],[u,v],_,_=>
    intro rest f;have e:brF 18 26 0 [] [u,v] ++rest=u ++(wK 26 ::(v ++rest)):=app u v rest (wK 26);rw[e];have E:=J 0 a u rfl rfl;have G:=E.h;unfold hdP at G;have w1:wnt 18 0=1:=rfl;rw[w1]at G;refine .mk ?_;unfold St1;simp only;rw[if_neg (by rw[jqz E.n];omega),if_neg (by rw[jqz E.n];omega),if_neg (by rw[jqz E.n];omega)];refine .mk ⟨a,_,kid 0 a u rfl rfl rfl _ ⟨by show(26:Int)≠18;decide,fun _=>rfl,fun _=>rfl,fun _=>rfl,fun _=>rfl,fun h=>absurd h (by decide)⟩,?_⟩;rw[if_pos (show hk (wK 26 ::_)=26 from rfl)];exact⟨b,kid 1 b v rfl rfl rfl rest f,rfl⟩
  |@call n h h'=>
   match ks,us,hn,hl with
   |[],_,hn,_=>simp at hn;omega
   |a ::ks,[],hn,hl=>simp at hn hl;omega
   |a ::ks,u ::us,hn,hl=>
    intro rest f;have E:=J 0 a u rfl rfl;have G:=E.h;unfold hdP at G;have w1:wnt 19 0=6:=rfl;rw[w1]at G
    have e:brF 19 0 0 [] (u ::us) ++rest=u ++(jn [] us ++rest):=by
     show jn [] (u ::us) ++rest=_;rw[Jbe,List.append_assoc]
    rw[e];refine .mk ?_;unfold St1 JaK;simp only;rw[if_neg (by rw[jqz E.n];omega),if_neg (by rw[jqz E.n];omega),if_neg (by rw[jqz E.n];omega),if_neg (by rw[jqz E.n];omega)]
    have o:JaJ 19 ([a] ++ks)= .n 19 0 0 [] (a ::ks):=by
     cases ks with
     |nil=>simp at hn;omega
     |cons=>rfl
    rw[<-o];refine⟨a,_,Cp.o (kid 0 a u rfl rfl rfl) ?_,JdJ f [a] (by simp at hn hl;omega) (fun i t u x y=>⟨kid (i+1) t u x y rfl,J (i+1) t u x y⟩) (by simp at hn ⊢;omega)⟩
    cases us with
    |nil=>exact f.x
    |cons v us=>
     cases ks with
     |nil=>simp at hn hl;omega
     |cons b ks=>
      have M:=J 1 b v rfl rfl;have O:=M.h;rw[Jbe,List.append_assoc,jqz M.n];unfold hdP at O;have w1:wnt 19 1=6:=rfl;rw[w1]at O;omega
  |idx=>
   match ks,us,hn,hl with
   |[a,b],[u,v],_,_=>
    intro rest T R hp
    have e:brF 20 18 0 [] [u,v] ++rest=u ++(wK 18 ::(v ++wK 24 ::rest)):=by
     show(u ++([wK 18] ++v)) ++[wK 24] ++rest=_;simp
    rw[e];exact kid 0 a u rfl rfl rfl _ T R (ol_x (by have:(1:Int)<=d:=hd;omega) (ih 1 b v rfl rfl) hp)
  |prn=>exact fun rest f=>.mk (Jbp f.x [] (by omega) (fun i t u x y=>⟨kid i t u x y rfl,J i t u x y⟩) (by simpa using hn))
  |len=>exact fun rest f=>.mk (Jbp f.x [] (by omega) (fun i t u x y=>⟨kid i t u x y rfl,J i t u x y⟩) (by simpa using hn))
  |arr=>exact fun rest f=>.mk (Jbp f.x [] (by omega) (fun i t u x y=>⟨kid i t u x y rfl,J i t u x y⟩) (by simpa using hn))
  |put=>exact fun rest f=>.mk (Jbp f.x [] (by omega) (fun i t u x y=>⟨kid i t u x y rfl,J i t u x y⟩) (by simpa using hn))
end V
end Go.Proofs.YtnhbcdnmfafbiaaGreatDoor
