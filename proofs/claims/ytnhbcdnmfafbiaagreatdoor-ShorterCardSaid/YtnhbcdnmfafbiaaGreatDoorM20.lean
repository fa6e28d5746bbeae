import Derived.Test.YtnhbcdnmfafbiaaGreatDoorM01
set_option linter.unusedVariables false
set_option linter.unusedSimpArgs false
set_option maxHeartbeats 20000000
namespace Go.Proofs.YtnhbcdnmfafbiaaGreatDoor
namespace V
def wK (k:Int):Wd:=⟨k,0,ByteArray.empty⟩
def sW (x:ByteArray):Wd:=⟨2,0,x⟩
def nW (m:Int):Wd:=⟨1,m,ByteArray.empty⟩
structure Wnw (w:Wd):Prop where
 n:w.k≠1->w.n=0
 s:w.k≠2->w.s=ByteArray.empty
def Wns (ws:List Wd):Prop:=∀w ∈ ws,Wnw w
theorem Wns.tl {ws:List Wd}(h:Wns ws):Wns ws.tail:=fun w hw=>h w (List.mem_of_mem_tail hw)
theorem Wns.app {u v:List Wd}(h:Wns (u ++v)):Wns v:=fun w hw=>h w (List.mem_append_right _ hw)
theorem JaG {ws:List Wd}{k:Int}(h:hk ws=k) (h0:k≠0) (J:k≠1) (h2:k≠2) (B:Wns ws):ws=wK k ::ws.tail:=by
 cases ws with
 |nil=>exact absurd h.symm h0
 |cons w ws=>
  have h:w.k=k:=h;have B:=B w (List.mem_cons_self ..);have E:=B.n (by omega);have G:=B.s (by omega);cases w
  dsimp only at h E G
  subst h E G;rfl
theorem JaQ {ws:List Wd}(h:hk ws=2) (E:Wns ws):ws=sW (hs ws) ::ws.tail:=by
 cases ws with
 |nil=>cases h
 |cons w ws=>
  have h:w.k=2:=h;have B:=(E w (List.mem_cons_self ..)).n (by omega);cases w
  dsimp only at h B
  subst h B;rfl
theorem hk_n {ws:List Wd}(h:hk ws=1) (E:Wns ws):ws=nW (hn ws) ::ws.tail:=by
 cases ws with
 |nil=>cases h
 |cons w ws=>
  have h:w.k=1:=h;have B:=(E w (List.mem_cons_self ..)).s (by omega);cases w
  dsimp only at h B
  subst h B;rfl
def jn (s:List Wd):List (List Wd)->List Wd
 |[]=>[]
 |[u]=>u
 |u ::us=>u ++(s ++jn s us)
theorem Jax (s u:List Wd) (v:List Wd) (us:List (List Wd)):jn s (u ::v ::us)=u ++(s ++jn s (v ::us)):=rfl
theorem JbI (s v:List Wd):∀{us:List (List Wd)},us≠[]->jn s (us ++[v])=jn s us ++(s ++v)
 |[],h=>absurd rfl h
 |[u],_=>rfl
 |u ::w ::us,_=>by
  rw[List.cons_append,List.cons_append,Jax,Jax,<-List.cons_append,JbI s v (by simp)];simp only[List.append_assoc]
def rk (k:Int):Nat:=if k=8\/k=9\/k=10\/k=11\/k=12\/k=18 then 0 else if k=17 then 1 else if k=16 then 2 else if k=15 then 3 else if k=13\/k=14 then 4 else if k=19\/k=21\/k=22\/k=23\/k=24 then 5 else if k=20 then 6 else 7
def wnt (k:Int) (i:Nat):Nat:=if k=17 then 2 else if k=16 then(if i=0 then 2 else 3) else if k=15 then(if i=0 then 3 else 4) else if k=13\/k=14 then 4 else if k=19\/k=21\/k=22\/k=23\/k=24 then 6 else if k=18 then(if i=0 then 1 else 0) else if k=20 then(if i=0 then 6 else 0) else 0
def bk (k:Int) (i:Nat):Int:=if k=7\/(k=20/\i≠0) then 1 else 0
def nb (k:Int):Int:=if k=6\/k=7\/k=10\/k=20 then 1 else 0
def ua (us:List (List Wd)) (i:Nat):List Wd:=us[i]?.getD []
def lnW (k:Int) (ns:List ByteArray):List Wd:=if k=9 then wK 4 ::ns.map sW else if k=10 then wK 23 ::(jn [wK 25] (ns.map fun x=>[sW x]) ++[wK 24]) else ns.map sW
def kwW (w:Int):List Wd:=if w=0 then[] else[wK w]
def brF (k w m:Int) (ns:List ByteArray) (us:List (List Wd)):List Wd:=
 if k=1 then[nW m] else if k=5 then ns.map sW else if k=6\/k=7 then wK 23 ::(jn [wK 25] us ++[wK 24])
 else if k=8\/k=9\/k=10 then wK 3 ::(lnW k ns ++wK 27 ::(ua us 0 ++wK 5 ::ua us 1))
 else if k=11 then wK 6 ::(ua us 0 ++wK 7 ::(ua us 1 ++wK 8 ::ua us 2))
 else if k=12 then wK 9 ::(ns.map sW ++wK 22 ::ua us 0)
 else if k=15\/k=16\/k=17\/k=18 then jn [wK w] us
 else if k=20 then jn [wK w] us ++[wK 24]
 else kwW w ++jn [] us
inductive Sh:Int->Int->Int->List ByteArray->Nat->Prop where
 |num (m:Int):Sh 1 0 m [] 0
 |nm (x:ByteArray):Sh 5 0 0 [x] 0
 |tru:Sh 2 11 0 [] 0
 |fls:Sh 3 12 0 [] 0
 |rd:Sh 4 13 0 [] 0
 |unt:Sh 6 0 0 [] 0
 |tup {n:Nat}(h:2<=n) (h':n<=6):Sh 7 0 0 [] n
 |let1 (x:ByteArray):Sh 8 3 0 [x] 2
 |letr {ns:List ByteArray}(h:2<=ns.length) (h':ns.length<=5):Sh 9 3 0 ns 2
 |lett {ns:List ByteArray}(h:2<=ns.length) (h':ns.length<=6):Sh 10 3 0 ns 2
 |ite:Sh 11 6 0 [] 3
 |fn {ns:List ByteArray}(h:1<=ns.length) (h':ns.length<=4):Sh 12 9 0 ns 1
 |neg:Sh 13 31 0 [] 1
 |nt:Sh 14 10 0 [] 1
 |prd {w:Int}(h:Jal w=true):Sh 15 w 0 [] 2
 |sum {w:Int}(h:jm6 w=true):Sh 16 w 0 [] 2
 |cmp {w:Int}(h:jnJ w=true):Sh 17 w 0 [] 2
 |seq:Sh 18 26 0 [] 2
 |call {n:Nat}(h:2<=n) (h':n<=5):Sh 19 0 0 [] n
 |idx:Sh 20 18 0 [] 2
 |prn:Sh 21 14 0 [] 1
 |len:Sh 22 15 0 [] 1
 |arr:Sh 23 16 0 [] 2
 |put:Sh 24 17 0 [] 3
inductive Gr:Int->Nat->Te->List Wd->Prop where
 |nd {d k w m:Int}{ns:List ByteArray}{ks:List Te}{us:List (List Wd)}(h:Sh k w m ns ks.length) (hd:nb k<=d) (hl:us.length=ks.length) (hk:∀(i:Nat) (t:Te) (u:List Wd),ks[i]? =some t->us[i]? =some u->Gr (d-bk k i) (wnt k i) t u):Gr d (rk k) (.n k w m ns ks) (brF k w m ns us)
 |up {d:Int}{r r':Nat}{t:Te}{u:List Wd}(h:r<=r') (hg:Gr d r' t u):Gr d r t u
 |br {d:Int}{t:Te}{u:List Wd}(h:0<d) (hg:Gr (d-1) 0 t u):Gr d 7 t (wK 23 ::(u ++[wK 24]))
theorem Gr.mono {d:Int}{r:Nat}{t:Te}{u:List Wd}(h:Gr d r t u):∀{d':Int},d<=d'->Gr d' r t u:=by
 induction h with
 |nd h hd hl hk ih=>exact fun hd'=>.nd h (by omega) hl fun i t u a b=>ih i t u a b (by omega)
 |up h _ ih=>exact fun hd'=>.up h (ih hd')
 |br h _ ih=>exact fun hd'=>.br (by omega) (ih (by omega))
theorem JbB {α:Type}{a x:α}{i:Nat}(h:[a][i]? =some x):i=0/\x=a:=by
 cases i with
 |zero=>exact⟨rfl,(Option.some.inj h).symm⟩
 |succ i=>cases h
theorem Gr.leaf {d k w m:Int}{ns:List ByteArray}(h:Sh k w m ns 0) (hd:nb k<=d):Gr d (rk k) (.n k w m ns []) (brF k w m ns []):=.nd h hd rfl fun i t u a=>by cases a
theorem Gr.n1 {d k w m:Int}{ns:List ByteArray}{a:Te}{u:List Wd}(h:Sh k w m ns 1) (hd:nb k<=d) (B:Gr (d-bk k 0) (wnt k 0) a u):Gr d (rk k) (.n k w m ns [a]) (brF k w m ns [u]):=.nd h hd rfl fun i t v x y=>by
 obtain⟨rfl,rfl⟩:=JbB x;obtain⟨_,rfl⟩:=JbB y;exact B
theorem Gr.n2 {d k w m:Int}{ns:List ByteArray}{a b:Te}{u v:List Wd}(h:Sh k w m ns 2) (hd:nb k<=d) (B:Gr (d-bk k 0) (wnt k 0) a u) (h2:Gr (d-bk k 1) (wnt k 1) b v):Gr d (rk k) (.n k w m ns [a,b]) (brF k w m ns [u,v]):=.nd h hd rfl fun i t v x y=>by
 match i with
 |0=>cases x;cases y;exact B
 |1=>cases x;cases y;exact h2
 |i+2=>cases x
theorem Gr.n3 {d k w m:Int}{ns:List ByteArray}{a b c:Te}{u v z:List Wd}(h:Sh k w m ns 3) (hd:nb k<=d) (B:Gr (d-bk k 0) (wnt k 0) a u) (h2:Gr (d-bk k 1) (wnt k 1) b v) (E:Gr (d-bk k 2) (wnt k 2) c z):Gr d (rk k) (.n k w m ns [a,b,c]) (brF k w m ns [u,v,z]):=.nd h hd rfl fun i t v x y=>by
 match i with
 |0=>cases x;cases y;exact B
 |1=>cases x;cases y;exact h2
 |2=>cases x;cases y;exact E
 |i+3=>cases x
structure Gk (d:Int) (r:Nat) (ts:List Te) (us:List (List Wd)):Prop where
 l:us.length=ts.length
 k:∀(i:Nat) (t:Te) (u:List Wd),ts[i]? =some t->us[i]? =some u->Gr d r t u
theorem Gk.nil {d r}:Gk d r [] []:=⟨rfl,fun i t u a=>by cases a⟩
theorem Gk.snoc {d r ts us t u}(h:Gk d r ts us) (B:Gr d r t u):Gk d r (ts ++[t]) (us ++[u]):=by
 refine⟨by rw[List.length_append,List.length_append,h.l];rfl,fun i x y a b=>?_⟩;have hl:=h.l
 by_cases hi:i<ts.length
 .rw[List.getElem?_append_left hi]at a
  rw[List.getElem?_append_left (by omega)]at b;exact h.k i x y a b
 .rw[List.getElem?_append_right (by omega)]at a
  rw[List.getElem?_append_right (by omega),hl]at b;obtain⟨_,rfl⟩:=JbB a;obtain⟨_,rfl⟩:=JbB b;exact B
theorem Gk.of1 {d r t u}(h:Gr d r t u):Gk d r [t] [u]:=Gk.snoc Gk.nil h
theorem Gr.row {d k w:Int}{r:Nat}{ts:List Te}{us:List (List Wd)}(h:Gk d r ts us) (hs:Sh k w 0 [] ts.length) {d':Int}(hd:nb k<=d') (B:∀i,d'-bk k i=d) (E:∀i,wnt k i=r):Gr d' (rk k) (.n k w 0 [] ts) (brF k w 0 [] us):=.nd hs hd h.l fun i t u a b=>by
 rw[B,E];exact h.k i t u a b
end V
end Go.Proofs.YtnhbcdnmfafbiaaGreatDoor
