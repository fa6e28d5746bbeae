
set_option linter.unusedVariables false
set_option linter.unusedSimpArgs false
set_option maxHeartbeats 20000000
namespace Go.Proofs.YtnhbcdnmfafbiaaGreatDoor
namespace V
structure Wd where
 (k n:Int)
 (s:ByteArray)
def hk:List Wd->Int
 |[]=>0
 |w ::_=>w.k
def hn:List Wd->Int
 |[]=>0
 |w ::_=>w.n
def hs:List Wd->ByteArray
 |[]=>ByteArray.empty
 |w ::_=>w.s
inductive Te where
 |n (k w m:Int) (ns:List ByteArray) (ks:List Te)
def jnJ (k:Int):Bool:=k == 27 || k == 19 || k == 28 || k == 20 || k == 29 || k == 21
def jm6 (k:Int):Bool:=k == 30 || k == 31
def Jal (k:Int):Bool:=k == 32 || k == 33 || k == 34
def jnc (k:Int):Bool:=k == 1 || k == 11 || k == 12 || k == 13 || k == 2 || k == 23
def nmL:Nat->List Wd->List ByteArray × List Wd
 |0,ws=>([],ws)
 |n+1,ws=>if hk ws=2 then((hs ws) ::(nmL n ws.tail).1,(nmL n ws.tail).2) else([],ws)
def cmL:Nat->List Wd->Option (List ByteArray × List Wd)
 |0,ws=>some ([],ws)
 |n+1,ws=>if hk ws=25 then(if hk ws.tail=2 then(match cmL n ws.tail.tail with
  |some (l,r)=>some (hs ws.tail ::l,r)
  |none=>none) else none) else some ([],ws)
def prF (ws:List Wd):Option (List ByteArray × List Wd):=if hk ws=2 then some (hs ws ::(nmL 3 ws.tail).1,(nmL 3 ws.tail).2) else none
def fnF (ws:List Wd):Option (List ByteArray × List Wd):=if hk ws=2 then(match prF ws.tail with
 |some (l,r)=>some (hs ws ::l,r)
 |none=>none) else none
def tpF (d:Int) (ws:List Wd):Option (List ByteArray × List Wd):=if hk ws=23/\0<d/\hk ws.tail=2/\hk ws.tail.tail=25/\hk ws.tail.tail.tail=2 then(match cmL 4 ws.tail.tail.tail.tail with
 |some (l,r)=>if hk r=24 then some (hs ws.tail ::hs ws.tail.tail.tail ::l,r.tail) else none
 |none=>none) else none
def lhF (d:Int) (ws:List Wd):Option (Int × List ByteArray × List Wd):=if hk ws=4 then(match fnF ws.tail with
 |some (l,r)=>some (9,l,r)
 |none=>none) else if hk ws=23 then(match tpF d ws with
 |some (l,r)=>some (10,l,r)
 |none=>none) else if hk ws=2 then some (8,[hs ws],ws.tail) else none
inductive Lv where
 |e|q|c|s|p|u|k|o|a
 |sl (t:Te)|pl (t:Te)|ol (t:Te)
 |kl (ts:List Te)|tl (ts:List Te)|fl (n:Nat) (kd w:Int) (ts:List Te)
def JaJ (k:Int):List Te->Te
 |[a]=>a
 |ts=>.n k 0 0 [] ts
abbrev Rel:=Int->Lv->List Wd->Te->List Wd->Prop
def Jcn (R:Rel) (d:Int) (ws:List Wd) (t:Te) (r:List Wd):Prop:=∃k ns r0,lhF d ws=some (k,ns,r0)/\hk r0=27/\∃a r1,R d .e r0.tail a r1/\hk r1=5/\∃b,R d .e r1.tail b r/\t= .n k 3 0 ns [a,b]
def ifS (R:Rel) (d:Int) (ws:List Wd) (t:Te) (r:List Wd):Prop:=∃a r1,R d .e ws a r1/\hk r1=7/\∃b r2,R d .e r1.tail b r2/\hk r2=8/\∃c,R d .e r2.tail c r/\t= .n 11 6 0 [] [a,b,c]
def Jcv (R:Rel) (d:Int) (ws:List Wd) (t:Te) (r:List Wd):Prop:=∃ns r0,prF ws=some (ns,r0)/\hk r0=22/\∃a,R d .e r0.tail a r/\t= .n 12 9 0 ns [a]
def JaC (R:Rel) (d:Int) (ws:List Wd) (t:Te) (r:List Wd):Prop:=
 if hk ws=1 then r=ws.tail/\t= .n 1 0 (hn ws) [] [] else
 if hk ws=2 then r=ws.tail/\t= .n 5 0 0 [hs ws] [] else
 if hk ws=11 then r=ws.tail/\t= .n 2 11 0 [] [] else
 if hk ws=12 then r=ws.tail/\t= .n 3 12 0 [] [] else
 if hk ws=13 then r=ws.tail/\t= .n 4 13 0 [] [] else
 if hk ws=23 then 0<d/\(if hk ws.tail=24 then r=ws.tail.tail/\t= .n 6 0 0 [] [] else ∃a r1,R (d-1) .e ws.tail a r1/\R d (.tl [a]) r1 t r) else False
def JaK (R:Rel) (d:Int) (ws:List Wd) (t:Te) (r:List Wd):Prop:=
 if hk ws=14 then R d (.fl 1 21 14 []) ws.tail t r else
 if hk ws=15 then R d (.fl 1 22 15 []) ws.tail t r else
 if hk ws=16 then R d (.fl 2 23 16 []) ws.tail t r else
 if hk ws=17 then R d (.fl 3 24 17 []) ws.tail t r else ∃a r1,R d .o ws a r1/\R d (.kl [a]) r1 t r
def St1 (R:Rel) (d:Int) (lv:Lv) (ws:List Wd) (t:Te) (r:List Wd):Prop:=match lv with
 | .e=>if hk ws=3 then Jcn R d ws.tail t r else if hk ws=6 then ifS R d ws.tail t r else if hk ws=9 then Jcv R d ws.tail t r else R d .q ws t r
 | .q=>∃a r1,R d .c ws a r1/\if hk r1=26 then ∃b,R d .e r1.tail b r/\t= .n 18 26 0 [] [a,b] else t=a/\r=r1
 | .c=>∃a r1,R d .s ws a r1/\if jnJ (hk r1) then ∃b,R d .s r1.tail b r/\t= .n 17 (hk r1) 0 [] [a,b] else t=a/\r=r1
 | .s=>∃a r1,R d .p ws a r1/\R d (.sl a) r1 t r
 | .sl a=>if jm6 (hk ws) then ∃b r1,R d .p ws.tail b r1/\R d (.sl (.n 16 (hk ws) 0 [] [a,b])) r1 t r else t=a/\r=ws
 | .p=>∃a r1,R d .u ws a r1/\R d (.pl a) r1 t r
 | .pl a=>if Jal (hk ws) then ∃b r1,R d .u ws.tail b r1/\R d (.pl (.n 15 (hk ws) 0 [] [a,b])) r1 t r else t=a/\r=ws
 | .u=>if hk ws=31 then ∃b,R d .u ws.tail b r/\t= .n 13 31 0 [] [b] else if hk ws=10 then ∃b,R d .u ws.tail b r/\t= .n 14 10 0 [] [b] else R d .k ws t r
 | .k=>JaK R d ws t r
 | .kl ts=>if ts.length<=4/\jnc (hk ws) then ∃b r1,R d .o ws b r1/\R d (.kl (ts ++[b])) r1 t r else r=ws/\t=JaJ 19 ts
 | .fl n k w ts=>if ts.length<n then ∃b r1,R d .o ws b r1/\R d (.fl n k w (ts ++[b])) r1 t r else r=ws/\t= .n k w 0 [] ts
 | .o=>∃a r1,R d .a ws a r1/\R d (.ol a) r1 t r
 | .ol a=>if hk ws=18 then 0<d/\∃b r1,R (d-1) .e ws.tail b r1/\hk r1=24/\R d (.ol (.n 20 18 0 [] [a,b])) r1.tail t r else t=a/\r=ws
 | .a=>JaC R d ws t r
 | .tl ts=>if ts.length<6/\hk ws=25 then ∃b r1,R (d-1) .e ws.tail b r1/\R d (.tl (ts ++[b])) r1 t r else hk ws=24/\r=ws.tail/\t=JaJ 7 ts
def itR:Nat->Rel
 |0=>fun _ _ _ _ _=>False
 |n+1=>St1 (itR n)
def Pa:Rel:=fun d lv ws t r=>∃n,itR n d lv ws t r
def LeR (R R':Rel):Prop:=∀{d lv ws t r},R d lv ws t r->R' d lv ws t r
theorem Jaj {c:Prop}[Decidable c] {a b B b':Prop}(E:a->B) (h2:b->b') (h:if c then a else b):if c then B else b':=by
 split at h <;> rename_i G
 .rw[if_pos G];exact E h
 .rw[if_neg G];exact h2 h
theorem JeE {R R':Rel}(h:LeR R R'):LeR (St1 R) (St1 R'):=by
 intro d lv ws t r
 have E:Jcn R d ws.tail t r->Jcn R' d ws.tail t r:=fun⟨k,ns,r0,a1,a2,a,r1,a3,a4,b,a5,a6⟩=>⟨k,ns,r0,a1,a2,a,r1,h a3,a4,b,h a5,a6⟩
 have B:ifS R d ws.tail t r->ifS R' d ws.tail t r:=fun⟨a,r1,a1,a2,b,r2,a3,a4,c,a5,a6⟩=>⟨a,r1,h a1,a2,b,r2,h a3,a4,c,h a5,a6⟩
 have hF:Jcv R d ws.tail t r->Jcv R' d ws.tail t r:=fun⟨ns,r0,a1,a2,a,a3,a4⟩=>⟨ns,r0,a1,a2,a,h a3,a4⟩
 cases lv with
 |e=>exact Jaj E (Jaj B (Jaj hF h))
 |q=>exact fun⟨a,r1,a1,a2⟩=>⟨a,r1,h a1,Jaj (fun⟨b,b1,b2⟩=>⟨b,h b1,b2⟩) id a2⟩
 |c=>exact fun⟨a,r1,a1,a2⟩=>⟨a,r1,h a1,Jaj (fun⟨b,b1,b2⟩=>⟨b,h b1,b2⟩) id a2⟩
 |s=>exact fun⟨a,r1,a1,a2⟩=>⟨a,r1,h a1,h a2⟩
 |p=>exact fun⟨a,r1,a1,a2⟩=>⟨a,r1,h a1,h a2⟩
 |o=>exact fun⟨a,r1,a1,a2⟩=>⟨a,r1,h a1,h a2⟩
 |u=>exact Jaj (fun⟨b,b1,b2⟩=>⟨b,h b1,b2⟩) (Jaj (fun⟨b,b1,b2⟩=>⟨b,h b1,b2⟩) h)
 |k=>exact Jaj h (Jaj h (Jaj h (Jaj h fun⟨a,r1,a1,a2⟩=>⟨a,r1,h a1,h a2⟩)))
 |a=>exact Jaj id (Jaj id (Jaj id (Jaj id (Jaj id (Jaj (fun⟨a1,a2⟩=>⟨a1,Jaj id (fun⟨a,r1,a1,a2⟩=>⟨a,r1,h a1,h a2⟩) a2⟩) id)))))
 |sl a=>exact Jaj (fun⟨b,r1,a1,a2⟩=>⟨b,r1,h a1,h a2⟩) id
 |pl a=>exact Jaj (fun⟨b,r1,a1,a2⟩=>⟨b,r1,h a1,h a2⟩) id
 |kl ts=>exact Jaj (fun⟨b,r1,a1,a2⟩=>⟨b,r1,h a1,h a2⟩) id
 |tl ts=>exact Jaj (fun⟨b,r1,a1,a2⟩=>⟨b,r1,h a1,h a2⟩) id
 |fl n k w ts=>exact Jaj (fun⟨b,r1,a1,a2⟩=>⟨b,r1,h a1,h a2⟩) id
 |ol a=>exact Jaj (fun⟨a0,b,r1,a1,a2,a3⟩=>⟨a0,b,r1,h a1,a2,h a3⟩) id
theorem JdS:∀n,LeR (itR n) (itR (n+1))
 |0=>fun h=>h.elim
 |n+1=>fun h=>JeE (JdS n) h
theorem JdT {n m:Nat}(h:n<=m):LeR (itR n) (itR m):=by
 induction h with
 |refl=>exact id
 |step _ ih=>exact fun h=>JdS _ (ih h)
theorem Pa.un {d lv ws t r}(h:Pa d lv ws t r):St1 Pa d lv ws t r:=by
 obtain⟨n,h⟩:=h
 cases n with
 |zero=>exact h.elim
 |succ n=>exact JeE (R:=itR n) (fun h=>⟨n,h⟩) h
theorem Jak {c:Prop}[Decidable c] {a b:Prop}{B b':Nat->Prop}(E:a->∃n,B n) (h2:b->∃n,b' n) (h:if c then a else b):∃n,if c then B n else b' n:=by
 split at h <;> rename_i G
 .obtain⟨n,h⟩:=E h;exact⟨n,by rw[if_pos G];exact h⟩
 .obtain⟨n,h⟩:=h2 h;exact⟨n,by rw[if_neg G];exact h⟩
theorem Ja0 {n m d lv ws t r}(h:itR n d lv ws t r):itR (n+m) d lv ws t r:=JdT (Nat.le_add_right ..) h
theorem JaP {n m d lv ws t r}(h:itR m d lv ws t r):itR (n+m) d lv ws t r:=JdT (Nat.le_add_left ..) h
theorem Jat {a:Prop}(h:a):∃_:Nat,a:=⟨0,h⟩
theorem Pa.two {d d' lv ws t r}{l:Te->Lv}(h:∃b r1,Pa d' lv ws b r1/\Pa d (l b) r1 t r):∃n,∃b r1,itR n d' lv ws b r1/\itR n d (l b) r1 t r:=by
 obtain⟨b,r1,⟨n,B⟩,m,h2⟩:=h;exact⟨n+m,b,r1,Ja0 B,JaP h2⟩
theorem Pa.mk {d lv ws t r}(h:St1 Pa d lv ws t r):Pa d lv ws t r:=by
 suffices h:∃n,St1 (itR n) d lv ws t r by
  obtain⟨n,h⟩:=h;exact⟨n+1,h⟩
 cases lv with
 |e=>
  refine Jak (fun⟨k,ns,r0,E,a2,a,B,⟨n,a3⟩,a4,b,⟨m,a5⟩,a6⟩=>⟨n+m,k,ns,r0,E,a2,a,B,Ja0 a3,a4,b,JaP a5,a6⟩) (Jak ?_ (Jak ?_ id)) h
  .exact fun⟨a,B,⟨n,E⟩,a2,b,r2,⟨m,a3⟩,a4,c,⟨o,a5⟩,a6⟩=>⟨n+(m+o),a,B,Ja0 E,a2,b,r2,JaP (Ja0 a3),a4,c,JaP (JaP a5),a6⟩
  .exact fun⟨ns,r0,E,a2,a,⟨n,a3⟩,a4⟩=>⟨n,ns,r0,E,a2,a,a3,a4⟩
 |q=>
  obtain⟨a,B,⟨n,E⟩,a2⟩:=h;obtain⟨m,h⟩:∃m,if hk B=26 then(∃b,itR (n+m) d .e B.tail b r/\t= .n 18 26 0 [] [a,b]) else t=a/\r=B:=Jak (fun⟨b,⟨m,b1⟩,b2⟩=>⟨m,b,JaP (n:=n) b1,b2⟩) Jat a2;exact⟨n+m,a,B,Ja0 E,h⟩
 |c=>
  obtain⟨a,B,⟨n,E⟩,a2⟩:=h;obtain⟨m,h⟩:∃m,if jnJ (hk B) then(∃b,itR (n+m) d .s B.tail b r/\t= .n 17 (hk B) 0 [] [a,b]) else t=a/\r=B:=Jak (fun⟨b,⟨m,b1⟩,b2⟩=>⟨m,b,JaP (n:=n) b1,b2⟩) Jat a2;exact⟨n+m,a,B,Ja0 E,h⟩
 |s=>exact Pa.two (l:=.sl) h
 |p=>exact Pa.two (l:=.pl) h
 |o=>exact Pa.two (l:=.ol) h
 |u=>exact Jak (fun⟨b,⟨m,b1⟩,b2⟩=>⟨m,b,b1,b2⟩) (Jak (fun⟨b,⟨m,b1⟩,b2⟩=>⟨m,b,b1,b2⟩) id) h
 |k=>exact Jak id (Jak id (Jak id (Jak id (Pa.two (l:=fun a=>.kl [a]))))) h
 |a=>
  refine Jak Jat (Jak Jat (Jak Jat (Jak Jat (Jak Jat (Jak ?_ Jat))))) h;intro⟨E,a2⟩;obtain⟨n,h⟩:=Jak Jat (Pa.two (l:=fun a=>.tl [a])) a2;exact⟨n,E,h⟩
 |sl a=>exact Jak (Pa.two (l:=fun b=>.sl _)) Jat h
 |pl a=>exact Jak (Pa.two (l:=fun b=>.pl _)) Jat h
 |kl ts=>exact Jak (Pa.two (l:=fun b=>.kl _)) Jat h
 |tl ts=>exact Jak (Pa.two (l:=fun b=>.tl _)) Jat h
 |fl n k w ts=>exact Jak (Pa.two (l:=fun b=>.fl _ _ _ _)) Jat h
 |ol a=>exact Jak (fun⟨a0,b,B,⟨n,E⟩,a2,⟨m,a3⟩⟩=>⟨n+m,a0,b,B,Ja0 E,a2,JaP a3⟩) Jat h
theorem Pa.iff {d lv ws t r}:Pa d lv ws t r↔St1 Pa d lv ws t r:=⟨Pa.un,Pa.mk⟩
def Det (R:Rel):Prop:=∀{d lv ws t r t' r'},R d lv ws t r->Pa d lv ws t' r'->t=t'/\r=r'
theorem Jai {c:Prop}[Decidable c] {a b E b' X:Prop}(G:a->E->X) (h2:b->b'->X) (h:if c then a else b) (B:if c then E else b'):X:=by
 split at h <;> rename_i J
 .rw[if_pos J]at B;exact G h B
 .rw[if_neg J]at B;exact h2 h B
theorem eq2 {α β:Type}{a B c:α}{b b' e:β}(h:a=c/\b=e) (E:B=c/\b'=e):b=b'/\a=B:=⟨h.2.trans E.2.symm,h.1.trans E.1.symm⟩
theorem Jbq {α β:Type}{a B c:α}{b b' e:β}(h:a=c/\b=e) (E:B=c/\b'=e):a=B/\b=b':=⟨h.1.trans E.1.symm,h.2.trans E.2.symm⟩
theorem Det.two {R:Rel}(h:Det R) {d d':Int}{lv:Lv}{ws r r':List Wd}{t B:Te}{l:Te->Lv}:(∃b r1,R d' lv ws b r1/\R d (l b) r1 t r)->(∃b r1,Pa d' lv ws b r1/\Pa d (l b) r1 B r')->t=B/\r=r':=fun⟨a,r1,a1,a2⟩ ⟨a',r1',b1,b2⟩=>by
 obtain⟨rfl,rfl⟩:=h a1 b1;exact h a2 b2
theorem Det.one {R:Rel}(h:Det R) {d:Int}{lv:Lv}{ws r r':List Wd}{t B:Te}{f:Te->Te}:(∃b,R d lv ws b r/\t=f b)->(∃b,Pa d lv ws b r'/\B=f b)->t=B/\r=r':=fun⟨a,a1,a2⟩ ⟨a',b1,b2⟩=>by
 obtain⟨rfl,rfl⟩:=h a1 b1;exact⟨a2.trans b2.symm,rfl⟩
theorem Jh7 {R:Rel}(h:Det R):Det (St1 R):=by
 intro d lv ws t r O r' B h2;replace h2:=h2.un
 cases lv with
 |e=>
  refine Jai ?_ (Jai ?_ (Jai ?_ h)) B h2
  .rintro ⟨k,ns,r0,E,a2,a,J,a3,a4,a5⟩ ⟨k',ns',r0',b1,b2,M,G,b3,b4,b5⟩
   rw[E]at b1;cases b1;obtain⟨rfl,rfl⟩:=h a3 b3;exact h.one a5 b5
  .rintro ⟨a,J,E,a2,b,r2,a3,a4,a5⟩ ⟨M,G,b1,b2,b',r2',b3,b4,b5⟩
   obtain⟨rfl,rfl⟩:=h E b1;obtain⟨rfl,rfl⟩:=h a3 b3;exact h.one a5 b5
  .rintro ⟨ns,r0,E,a2,a5⟩ ⟨ns',r0',b1,b2,b5⟩
   rw[E]at b1;cases b1;exact h.one a5 b5
 |q=>
  obtain⟨a,J,E,a2⟩:=B;obtain⟨M,G,b1,b2⟩:=h2;obtain⟨rfl,rfl⟩:=h E b1;exact Jai h.one Jbq a2 b2
 |c=>
  obtain⟨a,J,E,a2⟩:=B;obtain⟨M,G,b1,b2⟩:=h2;obtain⟨rfl,rfl⟩:=h E b1;exact Jai h.one Jbq a2 b2
 |s=>exact h.two (l:=.sl) B h2
 |p=>exact h.two (l:=.pl) B h2
 |o=>exact h.two (l:=.ol) B h2
 |u=>exact Jai h.one (Jai h.one h) B h2
 |k=>exact Jai h (Jai h (Jai h (Jai h (h.two (l:=fun a=>.kl [a]))))) B h2
 |a=>exact Jai eq2 (Jai eq2 (Jai eq2 (Jai eq2 (Jai eq2 (Jai (fun x y=>Jai eq2 (h.two (l:=fun a=>.tl [a])) x.2 y.2) fun x=>x.elim))))) B h2
 |ol a=>
  refine Jai ?_ Jbq B h2;rintro ⟨_,b,J,E,a2,a3⟩ ⟨_,b',G,b1,b2,b3⟩;obtain⟨rfl,rfl⟩:=h E b1;exact h a3 b3
 |tl ts=>exact Jai (h.two (l:=fun b=>.tl _)) (fun x y=>eq2 x.2 y.2) B h2
 |sl a=>exact Jai (h.two (l:=fun b=>.sl _)) Jbq B h2
 |pl a=>exact Jai (h.two (l:=fun b=>.pl _)) Jbq B h2
 |kl ts=>exact Jai (h.two (l:=fun b=>.kl _)) eq2 B h2
 |fl n k w ts=>exact Jai (h.two (l:=fun b=>.fl _ _ _ _)) eq2 B h2
theorem JdU:∀n,Det (itR n)
 |0=>fun h=>h.elim
 |n+1=>Jh7 (JdU n)
theorem Pa.det:Det Pa:=fun⟨n,h⟩ h'=>JdU n h h'
end V
end Go.Proofs.YtnhbcdnmfafbiaaGreatDoor
