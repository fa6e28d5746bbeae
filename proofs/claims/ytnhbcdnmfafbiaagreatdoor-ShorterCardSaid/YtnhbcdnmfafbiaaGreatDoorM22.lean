import Derived.Test.YtnhbcdnmfafbiaaGreatDoorM21
set_option linter.unusedVariables false
set_option linter.unusedSimpArgs false
set_option maxHeartbeats 20000000
namespace Go.Proofs.YtnhbcdnmfafbiaaGreatDoor
namespace V
def hdP (r:Nat) (k:Int):Prop:=(k=1\/k=11\/k=12\/k=13\/k=2\/k=23)\/(r<=5/\14<=k/\k<=17)\/(r<=4/\(k=31\/k=10))\/(r=0/\(k=3\/k=6\/k=9))
theorem hdP.down {r r':Nat}{k:Int}(h:r<=r') (hp:hdP r' k):hdP r k:=by
 unfold hdP at *;omega
structure Hd (r:Nat) (u:List Wd):Prop where
 n:u≠[]
 h:hdP r (hk u)
theorem jqz {u v:List Wd}(h:u≠[]):hk (u ++v)=hk u:=by
 cases u with
 |nil=>exact absurd rfl h
 |cons=>rfl
theorem Hd.app {r:Nat}{u:List Wd}(h:Hd r u) (v:List Wd):Hd r (u ++v):=⟨fun e=>h.n (List.append_eq_nil_iff.1 e).1,by rw[jqz h.n];exact h.h⟩
theorem Hd.down {r r':Nat}{u:List Wd}(h:r<=r') (hp:Hd r' u):Hd r u:=⟨hp.n,hp.h.down h⟩
theorem Gr.hd {d:Int}{r:Nat}{t:Te}{u:List Wd}(h:Gr d r t u):Hd r u:=by
 induction h with
 |up h _ ih=>exact ih.down h
 |br h _ ih=>exact⟨by simp,by unfold hdP;simp[brF,V.hk,wK,nW,sW,kwW,rk]⟩
 |@nd d k w m ns ks us sh hd hl hk ih=>
  have h0:∀{n:Nat},ks.length=n+1->∃(u:List Wd) (vs:List (List Wd)),us=u ::vs/\vs.length=n/\Hd (wnt k 0) u:=fun {n} e=>by
   cases ks with
   |nil=>cases e
   |cons a ks=>cases us with
    |nil=>cases hl
    |cons u us=>exact⟨u,us,rfl,by simp at hl e;omega,ih 0 a u rfl rfl⟩
  generalize ks.length=n at *
  cases sh with
  |num|nm|tru|fls|rd|unt=>exact⟨by simp[brF,kwW],by unfold hdP;simp[brF,V.hk,wK,nW,sW,kwW,rk]⟩
  |tup=>exact⟨by simp[brF,kwW],by unfold hdP;simp[brF,V.hk,wK,nW,sW,kwW,rk]⟩
  |let1|letr|lett|ite|fn=>exact⟨by simp[brF,kwW],by unfold hdP;simp[rk,brF,V.hk,wK,kwW]⟩
  |neg|nt|prn|len|arr|put=>exact⟨by simp[brF,kwW],by unfold hdP;simp[rk,brF,V.hk,wK,kwW]⟩
  |prd h|sum h|cmp h=>
   obtain⟨u,vs,rfl,B,g⟩:=h0 rfl;obtain⟨v,rfl⟩:=List.length_eq_one_iff.1 B;exact(g.app _).down (by decide)
  |seq=>
   obtain⟨u,vs,rfl,B,g⟩:=h0 rfl;obtain⟨v,rfl⟩:=List.length_eq_one_iff.1 B;exact(g.app _).down (by decide)
  |idx=>
   obtain⟨u,vs,rfl,B,g⟩:=h0 rfl;obtain⟨v,rfl⟩:=List.length_eq_one_iff.1 B;exact(g.app _).app _
  |@call n h h'=>
   obtain⟨u,vs,rfl,B,g⟩:=h0 (show n=(n-1)+1 by omega)
   cases vs with
   |nil=>simp at B;omega
   |cons v vs=>exact(g.app _).down (by decide)
structure Fo (r:Nat) (k:Int):Prop where
 x:k≠18
 o:r<=5->jnc k=false
 p:r<=3->Jal k=false
 s:r<=2->jm6 k=false
 c:r<=1->jnJ k=false
 q:r=0->k≠26
theorem Fo.mono {r r':Nat}{k:Int}(h:r<=r') (f:Fo r k):Fo r' k:=⟨f.x,fun _=>f.o (by omega),fun _=>f.p (by omega),fun _=>f.s (by omega),fun _=>f.c (by omega),fun _=>f.q (by omega)⟩
def Cp (d:Int):Nat->Te->List Wd->Prop
 |0,t,u=>∀rest,Fo 0 (hk rest)->Pa d .e (u ++rest) t rest
 |1,t,u=>∀rest,Fo 1 (hk rest)->Pa d .c (u ++rest) t rest
 |2,t,u=>∀rest T R,Fo 3 (hk rest)->Pa d (.sl t) rest T R->Pa d .s (u ++rest) T R
 |3,t,u=>∀rest T R,Fo 4 (hk rest)->Pa d (.pl t) rest T R->Pa d .p (u ++rest) T R
 |4,t,u=>∀rest,Fo 4 (hk rest)->Pa d .u (u ++rest) t rest
 |5,t,u=>∀rest,Fo 5 (hk rest)->Pa d .k (u ++rest) t rest
 |6,t,u=>∀rest T R,Pa d (.ol t) rest T R->Pa d .o (u ++rest) T R
 |7,t,u=>∀rest,Pa d .a (u ++rest) t rest
 |_,_,_=>True
theorem Jf8 {d:Int}{t:Te}{r:List Wd}(h:hk r≠18):Pa d (.ol t) r t r:=.mk (by unfold St1;simp only;rw[if_neg h];exact⟨by trivial,by trivial⟩)
theorem Jfp {d:Int}{t:Te}{r:List Wd}(h:jm6 (hk r)=false):Pa d (.sl t) r t r:=.mk (by unfold St1;simp only;rw[h];exact⟨by trivial,by trivial⟩)
theorem jrf {d:Int}{t:Te}{r:List Wd}(h:Jal (hk r)=false):Pa d (.pl t) r t r:=.mk (by unfold St1;simp only;rw[h];exact⟨by trivial,by trivial⟩)
theorem JdI {d:Int}{ts:List Te}{r:List Wd}(h:jnc (hk r)=false):Pa d (.kl ts) r (JaJ 19 ts) r:=.mk (by unfold St1;simp only;rw[h,if_neg (by simp)];exact⟨by trivial,by trivial⟩)
theorem Cp.o {d:Int}{t:Te}{u r:List Wd}(h:Cp d 6 t u) (B:hk r≠18):Pa d .o (u ++r) t r:=h r t r (Jf8 B)
theorem Cp.p {d:Int}{t:Te}{u r:List Wd}(h:Cp d 3 t u) (B:Fo 3 (hk r)):Pa d .p (u ++r) t r:=h r t r (B.mono (by omega)) (jrf (B.p (by omega)))
theorem Cp.s {d:Int}{t:Te}{u r:List Wd}(h:Cp d 2 t u) (B:Fo 2 (hk r)):Pa d .s (u ++r) t r:=h r t r (B.mono (by omega)) (Jfp (B.s (by omega)))
theorem Cp.one {d:Int}{r:Nat}{t:Te}{u:List Wd}(h:Cp d (r+1) t u) (hd:Hd (r+1) u) (B:r<=6):Cp d r t u:=by
 have hx:=hd.h;have hn:=fun v=>jqz (v:=v) hd.n;unfold hdP at hx
 match r,B with
 |0,_=>exact fun rest f=>.mk (by
  unfold St1;simp only;rw[if_neg (by rw[hn];omega),if_neg (by rw[hn];omega),if_neg (by rw[hn];omega)];refine .mk ⟨t,rest,h rest (f.mono (by omega)),?_⟩
  rw[if_neg (f.q rfl)];exact⟨rfl,rfl⟩)
 |1,_=>exact fun rest f=>.mk ⟨t,rest,Cp.s h (f.mono (by omega)),by rw[f.c (by omega)];exact⟨rfl,rfl⟩⟩
 |2,_=>exact fun rest T R f hp=>.mk ⟨t,rest,Cp.p h f,hp⟩
 |3,_=>exact fun rest T R f hp=>.mk ⟨t,rest,h rest f,hp⟩
 |4,_=>exact fun rest f=>.mk (by
  unfold St1;simp only;rw[if_neg (by rw[hn];omega),if_neg (by rw[hn];omega)]
  exact h rest (f.mono (by omega)))
 |5,_=>exact fun rest f=>.mk (by
  unfold St1 JaK;simp only;rw[if_neg (by rw[hn];omega),if_neg (by rw[hn];omega),if_neg (by rw[hn];omega),if_neg (by rw[hn];omega)]
  exact⟨t,rest,Cp.o h f.x,JdI (f.o (by omega))⟩)
 |6,_=>exact fun rest T R hp=>.mk ⟨t,rest,h rest,hp⟩
theorem Sh.le7 {k w m:Int}{ns:List ByteArray}{n:Nat}(h:Sh k w m ns n):rk k<=7:=by cases h <;> decide
theorem Gr.le7 {d:Int}{r:Nat}{t:Te}{u:List Wd}(h:Gr d r t u):r<=7:=by
 induction h with
 |nd sh=>exact sh.le7
 |up h _ ih=>omega
 |br=>omega
theorem Cp.down {d:Int}{t:Te}{u:List Wd}:∀{j r:Nat},Cp d (r+j) t u->Hd (r+j) u->r+j<=7->Cp d r t u
 |0,r,h,_,_=>h
 |j+1,r,h,hd,h7=>(Cp.one (r:=r+j) h hd (by omega)).down (hd.down (by omega)) (by omega)
theorem JdJ {d:Int}{rest:List Wd}(f:Fo 5 (hk rest)):∀{ts:List Te}{us:List (List Wd)}(t0:List Te),us.length=ts.length->(∀(i:Nat) (t:Te) (u:List Wd),ts[i]? =some t->us[i]? =some u->Cp d 6 t u/\Hd 6 u)->t0.length+ts.length<=5->Pa d (.kl t0) (jn [] us ++rest) (JaJ 19 (t0 ++ts)) rest
 |[],[],t0,_,_,_=>by rw[List.append_nil];exact JdI (f.o (by omega))
 |t ::ts,u ::us,t0,hl,h,hn=>by
  obtain⟨E,h2⟩:=h 0 t u rfl rfl
  have e:jn [] (u ::us) ++rest=u ++(jn [] us ++rest):=by
   cases us with
   |nil=>rfl
   |cons v us=>rw[Jax];simp
  rw[e]
  have x:hk (jn [] us ++rest)≠18:=by
   cases us with
   |nil=>exact f.x
   |cons v us=>
    cases ts with
    |nil=>simp at hl
    |cons t' ts=>
     obtain⟨_,g⟩:=h 1 t' v rfl rfl;have B:=g.h
     have:jn [] (v ::us) ++rest=v ++(jn [] us ++rest):=by
      cases us with
      |nil=>rfl
      |cons v us=>rw[Jax];simp
     rw[this,jqz g.n];unfold hdP at B;omega
  have ih:=JdJ f (t0 ++[t]) (ts:=ts) (us:=us) (by simp at hl;exact hl) (fun i t u a b=>h (i+1) t u a b) (by simp at hn ⊢;omega);rw[List.append_assoc]at ih;have B:=h2.h;refine .mk ?_;unfold St1;simp only
  rw[if_pos ⟨by simp at hn;omega,by
   rw[jqz h2.n];unfold hdP at B;unfold jnc;simp only[Bool.or_eq_true,beq_iff_eq]
   omega⟩]
  exact⟨t,_,Cp.o E x,ih⟩
 |[],_ ::_,_,hl,_,_=>absurd hl (by simp)
 |_ ::_,[],_,hl,_,_=>absurd hl (by simp)
end V
end Go.Proofs.YtnhbcdnmfafbiaaGreatDoor
