import Derived.Test.YtlpmpelnhdoboaaGreatDoorS12
set_option linter.unusedVariables false
set_option linter.unusedSimpArgs false
set_option maxHeartbeats 20000000
namespace Go.Proofs.YtlpmpelnhdoboaaGreatDoor
open Go.RowKit Sl
def jnL (p:Int):Obj:=.cells #[.string f_0,.int .i64 p,.int .i64 0,.string f_0,.slice none 0 0,.slice none 0 0] 117 (0,0)
def jno (L:List Tok) (g:G):Prop:=∀(n b off cap:Nat) (w:World),n=L.length->L.length<=100000->L.length<=cap->b<w.heap.size->RW w b off L->(∀t ∈ L,jnl t)->
 Calls Tryz.prog 23 #[.slice (some ⟨b,off,none⟩) n cap] w fun e w'=>∃v,e= .returned v/\HT w' w.heap.size w'.heap.size v g/\Below w.heap.size w w'
def jnV (F:Nat) (p:Int) (L:List Tok) (g:G):Prop:=∀(n b off cap bt:Nat) (w:World),n=L.length->L.length<=100000->L.length<=cap->b<bt->bt<w.heap.size->w.heap[bt]? =some (jnL p)->RW w b off L->(∀t ∈ L,jnl t)->
 Calls Tryz.prog F #[.slice (some ⟨b,off,none⟩) n cap,.pointer (some ⟨bt,0,none⟩)] w fun e w'=>∃v,e= .returned v/\HT w' bt w'.heap.size v g/\Below bt w w'
variable {w:World}{b off:Nat}{L:List Tok}
theorem RW.cut (h:RW w b off L) (i j:Nat):RW w b (off+i*3) (jm4 L i j):=by
 intro k hk;unfold jm4 at hk;have C:=hk;rw[List.length_take,Ys]at C;have A:=h (i+k) (by omega);have he:(jm4 L i j)[k]=L[i+k]'(by omega):=by simp[jm4]
 rw[he];have e:off+(i+k)*3=off+i*3+k*3:=by omega
 rw[e]at A;exact A
theorem RW.drop {w:World}{b off:Nat}{L:List Tok}(h:RW w b off L) (i:Nat):RW w b (off+i*3) (L.drop i):=by
 intro k hk;have C:=hk;rw[Ys]at C;have A:=h (i+k) (by omega);have he:(L.drop i)[k]=L[i+k]'(by omega):=by simp
 rw[he];have e:off+(i+k)*3=off+i*3+k*3:=by omega
 rw[e]at A;exact A
theorem jo4 (h:∀t ∈ L,jnl t) (i j:Nat):∀t ∈ jm4 L i j,jnl t:=fun t ht=>h t (List.mem_of_mem_drop (List.mem_of_mem_take ht))
theorem jp0 (h:∀t ∈ L,jnl t) (i:Nat):∀t ∈ L.drop i,jnl t:=fun t ht=>h t (List.mem_of_mem_drop ht)
variable {i:Nat}
theorem joJ (h:RW w b off L) (A:∀t ∈ L,jnl t) (hi:i<L.length):w.cell? ⟨b,off+i*3,none⟩=some (.string (jC (jD L i))):=by
 rw[(h i hi).1,(A L[i] (by simp)).1,joQ L i hi]
theorem jsX (hi:i<L.length):jm7 L i=L[i]:=by simp[jm7,hi]
theorem jpv (h:RW w b off L) (hi:i<L.length):w.cell? ⟨b,off+i*3+2,none⟩=some (.int .i64 (jm7 L i).p):=by
 rw[(h i hi).2.2,jsX hi]
theorem jsV (h:RW w b off L) (hi:i<L.length):w.cell? ⟨b,off+i*3+1,none⟩=some (.string (jm7 L i).t):=by
 rw[(h i hi).2.1,jsX hi]
theorem jsn {k:Nat}(hk:k<35):((jC k).toList == (⟨#[]⟩:ByteArray).toList)=decide (k=99):=by
 have:∀k:Fin 35,((jC k.val).toList == (⟨#[]⟩:ByteArray).toList)=decide (k.val=99):=by
  intro k;rw[Ye,Ye]
  revert k
  decide
 exact this ⟨k,hk⟩
variable {t:TypeId}
theorem cells_of_block {a:Array Value}(h:w.heap[b]? =some (.cells a t (0,0))) (i:Nat):w.cell? ⟨b,i,none⟩=a[i]?/\w.frozen? ⟨b,i,none⟩=false:=by
 constructor <;> simp[World.cell?,World.frozen?,h]
theorem block_setCell {a:Array Value}(h:w.heap[b]? =some (.cells a t (0,0))) (i:Nat) (u:Value):(w.setCell ⟨b,i,none⟩ u).heap[b]? =some (.cells (a.setIfInBounds i u) t (0,0)):=by
 have A:=lt_of_block h;have C:w.heap[b]= .cells a t (0,0):=by simpa[Array.getElem?_eq_getElem A] using h
 show(w.heap.modify b _)[b]? =_;rw[Array.getElem?_eq_getElem (by simpa using A),Array.getElem_modify_self,C];rfl
theorem RW.alloc {w:World}{b off:Nat}{L:List Tok}(h:RW w b off L) (A:b<w.heap.size) (o:Obj):RW (w.alloc o) b off L:=
 h.below ((Ko w.heap.size w).alloc jN o) A
variable {B n:Nat}{v:Value}{g:G}
theorem HT.ptr (h:HT w B n v g):∃b,v= .pointer (some ⟨b,0,none⟩)/\B<=b/\b<n:=by
 cases h with|nd h1 h2=>exact⟨_,rfl,h1,h2⟩
theorem toL (l:List UInt8):(⟨l.toArray⟩:ByteArray).toList=l:=by rw[Ye]
variable {cap:Nat}
theorem jqv {i0 op cl:Nat}{z:Int}{A cb:ByteArray}(K:z=(i0:Int)) (O:L.length<=100000) (U:L.length<=cap) (W:RW w b off L) (F:∀t ∈ L,jnl t) (C:i0<=L.length)
 (E:∀k,k<35->((jC k).toList == A.toList)=decide (k=op)) (H:∀k,k<35->((jC k).toList == cb.toList)=decide (k=cl)) (I:op≠cl) (R:mtL L i0 op cl=i) :
 Calls Tryz.prog 47 #[.slice (some ⟨b,off,none⟩) L.length cap,.int .i64 z,.string A,.string cb] w fun e w'=>e= .returned (.int .i64 (i:Nat))/\w'=w:=by
 have:=jET L b off cap i0 op cl A cb w O U W F C E H I;subst R K;exact this
theorem nkB6:∀k,k<35->((jC k).toList == (⟨#[105,102]⟩:ByteArray).toList)=decide (k=6):=fun k hk=>(congrArg (fun q=>(jC k).toList == q) (toL [105,102])).trans (nk6 hk)
theorem nkB7:∀k,k<35->((jC k).toList == (⟨#[116,104,101,110]⟩:ByteArray).toList)=decide (k=7):=fun k hk=>(congrArg (fun q=>(jC k).toList == q) (toL [116,104,101,110])).trans (nk7 hk)
theorem nkB8:∀k,k<35->((jC k).toList == (⟨#[101,108,115,101]⟩:ByteArray).toList)=decide (k=8):=fun k hk=>(congrArg (fun q=>(jC k).toList == q) (toL [101,108,115,101])).trans (nk8 hk)
variable {w':World}{o:Obj}
theorem jng (h:w.heap[b]? =some o) (A:Below B w w') (C:b<B):w'.heap[b]? =some o:=(A.block b C).trans h
theorem jnC (w:World) (o:Obj):(w.alloc o).heap[w.heap.size]? =some o:=by
 show(w.heap.push o)[w.heap.size]? =_;simp
theorem jol {a:Array Value}(h:w.heap[b]? =some (.cells a t (0,0))) (i:Nat) (A:a[i]? =some v):∀o,(w.alloc o).cell? ⟨b,i,none⟩=some v:=fun o=>by
 have:=Kq w o b (lt_of_block h);rw[Ke (w:=w) (a:=⟨b,i,none⟩) this,(cells_of_block h i).1,A]
theorem jpD {a:Array Value}(h:w.heap[b]? =some (.cells a t (0,0))) (i:Nat):∀o,(w.alloc o).frozen? ⟨b,i,none⟩=false:=fun o=>by
 have:=Kq w o b (lt_of_block h);rw[World.frozen?_of_block (w:=w) (a:=⟨b,i,none⟩) this,(cells_of_block h i).2]
variable {w1:World}
theorem jAn (h:Below (w.alloc o).heap.size (w.alloc o) w1):Below w.heap.size w w1:=
 ((Ko w.heap.size w).alloc jN o).trans (h.mono (by simp))
variable {bt:Nat}{w3:World}
theorem jFN {A:World}(h:Below n A w3) (E:n<=w3.heap.size) (C:bt<B) (o:Obj) (u:Value):jpV B n A ((w3.alloc o).setCell ⟨bt,i,none⟩ u):=fun b h1 h2=>by
 rw[Kh _ _ _ _ (by show b≠bt;omega),Kq _ _ _ (by omega)];exact h.block b h2
variable {ps:List Value}{gs:List G}
theorem jqy {N:Nat}{form C:ByteArray}{pos num:Int}{names:List ByteArray}{H:Value}{e:TypeId}
 (E:w3.heap[bt]? =some (.cells #[.string form,.int .i64 pos,.int .i64 num,.string C,H,.slice none 0 0] 117 (0,0)))
 (R:B<=bt) (O:N=ps.length)
 (A:jpl w3 (bt+1) w3.heap.size H (names.map Value.string)) (hk:HTs w3 (bt+1) w3.heap.size ps gs) :
 HT ((w3.alloc (.cells ps.toArray e (0,0))).setCell ⟨bt,5,none⟩ (.slice (some ⟨w3.heap.size,0,none⟩) N N)) B ((w3.alloc (.cells ps.toArray e (0,0))).setCell ⟨bt,5,none⟩ (.slice (some ⟨w3.heap.size,0,none⟩) N N)).heap.size
  (.pointer (some ⟨bt,0,none⟩)) (.nd form pos num C names gs):=by
 have I:=lt_of_block E;have K:((w3.alloc (.cells ps.toArray e (0,0))).setCell ⟨bt,5,none⟩ (.slice (some ⟨w3.heap.size,0,none⟩) N N)).heap.size=w3.heap.size+1:=by simp[World.setCell]
 have U:=block_setCell (w:=w3.alloc (.cells ps.toArray e (0,0))) ((Kq _ _ _ I).trans E) 5 (.slice (some ⟨w3.heap.size,0,none⟩) N N);have F:jpV (bt+1) w3.heap.size w3 ((w3.alloc (.cells ps.toArray e (0,0))).setCell ⟨bt,5,none⟩ (.slice (some ⟨w3.heap.size,0,none⟩) N N)):=jFN jB jN (by omega) _ _;rw[K];refine .nd R (by omega) U ((A.keep F).wide (by omega) (by omega)) (ps:=ps) (Or.inr ⟨w3.heap.size,0,N,by rw[O],by omega,by omega,by omega,fun i u hu=>?_⟩) ((hk.keep F).wide (by omega) (by omega));rw[Ke (w:=w3.alloc (.cells ps.toArray e (0,0))) (a:=⟨w3.heap.size,0+i,none⟩) (Kh _ _ _ _ (by show w3.heap.size≠bt;omega)),(cells_of_block (jnC w3 (.cells ps.toArray e (0,0))) (0+i)).1,Kc];simpa using hu
variable {a:G}
set_option maxRecDepth 100000 in
theorem jBx {b c:G}{j:Nat}(h0:jD L 0=6) (hi:mtL L 1 6 7=i) (hj:mtL L (i+1) 6 8=j) (h1:1<i) (h2:i+1<j) (h3:j+1<L.length)
 (ha:jno (jm4 L 1 i) a) (hb:jno (jm4 L (i+1) j) b) (hc:jno (L.drop (j+1)) c):jno L (.nd jwm (jm7 L 0).p 0 f_0 [] [a,b,c]):=by
 intro n bl off cap w hn hL K F U R;subst hn;have hk:=joJ U R (i:=0) (by omega);have hp:=jpv U (i:=0) (by omega);rw[h0]at hk;simp only[Kv,Kz]at hk hp;have W:=jH U;have I:=jH R;have HI:=jH hi;have HJ:=jH hj;have e1:((jC 6).toList == [108,101,116])=false:=by rw[nk3 (by decide)];decide
 have e2:((jC 6).toList == [105,102])=true:=by rw[nk6 (by decide)];decide
 obtain⟨nm,h4⟩:∃nm,jC 6=nm:=⟨_,rfl⟩
 rw[h4]at hk e1 e2;have HA:=jH ha;have HB:=jH hb;have HC:=jH hc;clear U R hi hj h0 h4 ha hb hc
 obtain⟨p0,h6⟩:∃p0:Int,((jm7 L 0).p:Int)=p0:=⟨_,rfl⟩
 rw[h6]at hp ⊢;clear h6
 go_enter Tryz.func23,Tryz.ntmps23
 go_wp2_with (first
  |(go_at_call 47;refine(jqv (i0:=1) (i:=i) (op:=6) (cl:=7) (by omega) hL K (W.o.alloc F _) I.o (by omega) (by exact nkB6) (by exact nkB7) (by decide) HI.o).mono ?_;rintro e w' ⟨rfl,O⟩;subst O)
  |(go_at_call 47;refine(jqv (i0:=i+1) (i:=j) (op:=6) (cl:=8) (by omega) hL K (W.o.alloc F _) I.o (by omega) (by exact nkB6) (by exact nkB8) (by decide) HJ.o).mono ?_;rintro e w' ⟨rfl,O⟩;subst O)
  |(go_at_call 23;refine(HA.o _ bl _ _ _ (by rw[jn1 _ (by omega) (by omega)]) (by rw[jn1 _ (by omega) (by omega)];omega) (by rw[jn1 _ (by omega) (by omega)];omega) (by simp;omega) (by exact(W.o.alloc F _).cut 1 i) (jo4 I.o 1 i)).mono ?_;rintro e w1 ⟨v1,rfl,Y,H⟩;obtain⟨p1,rfl,k9,k5⟩:=Y.ptr;have h9:=H.size;rw[Ya]at h9;have Z:Hid (RW w1 bl off L):=(W.o.alloc F _).below H (by simp;omega))
  |(go_at_call 23;refine(HB.o _ bl _ _ _ (by rw[jn1 _ (by omega) (by omega)]) (by rw[jn1 _ (by omega) (by omega)];omega) (by rw[jn1 _ (by omega) (by omega)];omega) (by omega) (by exact Z.o.cut (i+1) j) (jo4 I.o (i+1) j)).mono ?_;rintro e w2 ⟨v2,rfl,h5,A⟩;obtain⟨p2,rfl,q6,k4⟩:=h5.ptr;have k1:=A.size;have h8:Hid (RW w2 bl off L):=Z.o.below A (by omega))
  |(go_at_call 23;refine(HC.o _ bl _ _ _ (by rw[Ys]) (by rw[Ys];omega) (by rw[Ys];omega) (by omega) (by exact h8.o.drop (j+1)) (jp0 I.o (j+1))).mono ?_;rintro e w3 ⟨v3,rfl,h7,C⟩;obtain⟨p3,rfl,q4,k2⟩:=h7.ptr;have k7:=C.size;have E:=jng (jng (jng (jnC w _) H (by simp)) A (by omega)) C (by omega);have k8:=jol E 5 rfl;have q5:=jpD E 5))
 go_ret;refine⟨_,rfl,jqy (ps:=[.pointer (some ⟨p1,0,none⟩),.pointer (some ⟨p2,0,none⟩),.pointer (some ⟨p3,0,none⟩)]) E jN rfl (Or.inl ⟨rfl,_,_,rfl⟩) ?_,?_⟩
 .have b13:Below w1.heap.size w1 w3:=A.trans (C.mono k1)
  refine .cons ((Y.keep (jqH b13 _)).wide (by simp) (by omega)) (.cons ((h5.keep (jqH C _)).wide (by omega) (by omega)) (.cons (h7.wide (by omega) jN) .nil))
 .exact(((jAn H).trans (A.mono (by omega))).trans (C.mono (by omega))).alloc (by omega) _ |>.setCell jN _
theorem jEx:∀k,k<35->((jC k).toList == (⟨#[45,62]⟩:ByteArray).toList)=decide (k=22):=fun k hk=>(congrArg (fun q=>(jC k).toList == q) (toL [45,62])).trans (nk22 hk)
theorem jpl.own_ptr {xs:List Value}(h:jpl w B n v xs):∃a m cap,v= .slice a m cap:=by
 rcases h with⟨_,a,cap,rfl⟩|⟨g,off,cap,rfl,_⟩
 .exact⟨_,_,_,rfl⟩
 .exact⟨_,_,_,rfl⟩
theorem size_setCell (w:World) (a:Addr) (u:Value):(w.setCell a u).heap.size=w.heap.size:=by simp[World.setCell]
theorem jsK (w:World) (b i:Nat) (u:Value):Below b w (w.setCell ⟨b,i,none⟩ u):=(Ko b w).setCell jN u
theorem jsZ (I:n=L.length) (F:L.length<=100000) (C:L.length<=cap) (E:b<w.heap.size) (H:RW w b off L) (A:∀t ∈ L,jnl t) :
 Calls Tryz.prog 48 #[.slice (some ⟨b,off,none⟩) n cap] w fun e w'=>∃v,e= .returned v/\w'.ownsRow w.heap.size 9 1 v (jns L).length ((jns L).map Value.string)/\Below w.heap.size w w':=by
 subst I;exact jBM L b off cap w F C E H A
set_option maxRecDepth 100000 in
theorem jBy {b:G}(h0:jD L 0=9) (hi:mtL L 1 99 22=i) (h1:1<=i) (h3:i+1<L.length)
 (hb:jno (L.drop (i+1)) b):jno L (.nd jwn (jm7 L 0).p 0 f_0 (jns (jm4 L 1 i)) [b]):=by
 intro n bl off cap w hn hL h7 E R I;subst hn;have hk:=joJ R I (i:=0) (by omega);have hp:=jpv R (i:=0) (by omega);rw[h0]at hk;simp only[Kv,Kz]at hk hp;have HR:=jH R;have HK:=jH I;have HI:=jH hi;have e1:((jC 9).toList == [108,101,116])=false:=by rw[nk3 (by decide)];decide
 have e2:((jC 9).toList == [105,102])=false:=by rw[nk6 (by decide)];decide
 have e3:((jC 9).toList == [102,117,110])=true:=by rw[nk9 (by decide)];decide
 obtain⟨nm,Y⟩:∃nm,jC 9=nm:=⟨_,rfl⟩
 rw[Y]at hk e1 e2 e3;have HB:=jH hb;clear R I hi h0 Y hb
 obtain⟨p0,h5⟩:∃p0:Int,((jm7 L 0).p:Int)=p0:=⟨_,rfl⟩
 rw[h5]at hp ⊢;clear h5;have K:Hid ((jm4 L 1 i).length=i-1):=jn1 L h1 (by omega)
 go_enter Tryz.func23,Tryz.ntmps23
 go_wp2_with (first
  |(go_at_call 47;refine(jqv (i0:=1) (i:=i) (op:=99) (cl:=22) (by omega) hL h7 (HR.o.alloc E _) HK.o (by omega) (by exact fun k hk=>jsn hk) (by exact jEx) (by decide) HI.o).mono ?_;rintro e w' ⟨rfl,k1⟩;subst k1)
  |(go_at_call 48;refine(jsZ (L:=jm4 L 1 i) (by rw[K.out]) (by rw[K.out];omega) (by rw[K.out];omega) (by simp;omega) (by exact(HR.o.alloc E _).cut 1 i) (jo4 HK.o 1 i)).mono ?_;rintro e w1 ⟨v1,rfl,h9,H⟩;have h4:=jsh h9;obtain⟨sa,sm,h6,rfl⟩:=h4.own_ptr;have h8:=H.size;rw[Ya]at h8;have k2:Hid (RW w1 bl off L):=(HR.o.alloc E _).below H (by simp;omega);have C:=jng (jnC w _) H (by simp);have k4:=(cells_of_block C 4).1;have k8:=(cells_of_block C 4).2;simp only[List.getElem?_toArray]at k4)
  |(go_at_call 23;refine(HB.o _ bl _ _ _ (by rw[Ys]) (by rw[Ys];omega) (by rw[Ys];omega) (by rw[size_setCell];omega) (by exact(k2.o.below (jsK w1 _ _ _) E).drop (i+1)) (jp0 HK.o (i+1))).mono ?_;rintro e w2 ⟨v2,rfl,Z,F⟩;obtain⟨p2,rfl,q4,k5⟩:=Z.ptr;have W:=F.size;rw[size_setCell]at W;have U:=block_setCell C 4 (.slice sa sm h6);have A:=jng U F (by rw[size_setCell];omega);have k7:=jol A 5 rfl;have k9:=jpD A 5))
 go_ret;have O:jpV (w.heap.size+1) w1.heap.size w1 w2:=fun b h1 h2=>(F.block b (by rw[size_setCell];exact h2)).trans (Kh _ _ _ _ (by show b≠w.heap.size;omega));refine⟨_,rfl,jqy (ps:=[.pointer (some ⟨p2,0,none⟩)]) A jN rfl ((h4.wide (by simp) jN).keep O |>.wide jN W) (.cons (Z.wide (by rw[size_setCell];omega) jN) .nil),?_⟩;exact(((jAn H).trans (jsK w1 _ _ _)).trans (F.mono (by rw[size_setCell];omega))).alloc (by omega) _ |>.setCell jN _
theorem jvE:∀k,k<35->((jC k).toList == (⟨#[61]⟩:ByteArray).toList)=decide (k=27):=fun k hk=>(congrArg (fun q=>(jC k).toList == q) (toL [61])).trans (nk27 hk)
theorem jvD:∀k,k<35->((jC k).toList == (⟨#[108,101,116]⟩:ByteArray).toList)=decide (k=3):=fun k hk=>(congrArg (fun q=>(jC k).toList == q) (toL [108,101,116])).trans (nk3 hk)
theorem jvC:∀k,k<35->((jC k).toList == (⟨#[105,110]⟩:ByteArray).toList)=decide (k=5):=fun k hk=>(congrArg (fun q=>(jC k).toList == q) (toL [105,110])).trans (nk5 hk)
theorem jmp {a:Array Value}(h:w.heap[b]? =some (.cells a t (0,0))) (i:Nat) (A:a[i]? =some v):w.cell? ⟨b,i,none⟩=some v:=(cells_of_block h i).1.trans A
theorem jne {a:Array Value}(h:w.heap[b]? =some (.cells a t (0,0))) (i:Nat):w.frozen? ⟨b,i,none⟩=false:=(cells_of_block h i).2
theorem joV (A:∀t ∈ L,jnl t) (hi:i<L.length):jD L i<35:=by
 rw[joQ L i hi];exact(A L[i] (by simp)).2
def jnm (bt:Nat) (w w':World):Prop:=Below bt w w'/\w'.heap.size=w.heap.size/\∀b,b≠bt->w'.heap[b]? =w.heap[b]?
theorem jDi {g m:Nat}{x:Value}{xs:List Value}(h:jpl w B n (.slice (some ⟨g,off,none⟩) (m+1) cap) (x ::xs)):jpl w B n (.slice (some ⟨g,off+1,none⟩) m (cap-1)) xs:=by
 rcases h with h|⟨U,E,F,C,O,I,H,K⟩
 .simp at h
 .simp only[Value.slice.injEq,Option.some.injEq,Addr.mk.injEq,Yk]at C
  obtain⟨⟨rfl,rfl,_⟩,R,rfl⟩:=C;have A:m=xs.length:=by omega
  subst A;refine Or.inr ⟨g,off+1,cap-1,rfl,O,I,by simp only[Yk]at H;omega,fun i u hu=>?_⟩;have:=K (i+1) u (by simpa using hu);rw[show off+1+i=off+(i+1) by omega];exact this
theorem jnm.refl (bt:Nat) (w:World):jnm bt w w:=⟨jB,rfl,fun _ _=>rfl⟩
theorem jnm.set (h:jnm bt w w') (u:Value):jnm bt w (w'.setCell ⟨bt,i,none⟩ u):=
 ⟨h.1.trans (jsK w' bt i u),(size_setCell w' _ u).trans h.2.1,fun b hb=>(Kh _ _ _ _ hb).trans (h.2.2 b hb)⟩
theorem jnm.below (h:jnm bt w w'):Below bt w w':=h.1
theorem jra {W w2:World}(A:Below W.heap.size W w2) (h:jnm bt w W) (C:bt<w.heap.size):w.heap.size<=w2.heap.size/\Below bt w w2/\jpV (bt+1) w.heap.size w w2:=by
 have:=A.size;have E:=h.2.1;refine⟨by omega,⟨A.os.trans h.1.os,A.tape.trans h.1.tape,A.output.trans h.1.output,by omega,fun k hk=>?_⟩,fun b h1 h3=>(A.block b (by omega)).trans (h.2.2 b (by omega))⟩;exact(A.block k (by omega)).trans (h.1.block k hk)
theorem jnm.held (h:jnm bt w w') (A:bt<B):jpV B n w w':=fun b h1 _=>h.2.2 b (by omega)
variable {e:Nat}{p:Int}
set_option maxRecDepth 100000 in
theorem jFc {b:G}(he:mtL L 1 99 27=e) (hi:mtL L 1 3 5=i) (h1:1<=e) (h2:e+1<i) (h3:i+1<L.length) (Y:(jns (jm4 L 1 e)).length≠0) (h4:jD L 1≠4) (k9:jD L 1≠23)
 (ha:jno (jm4 L (e+1) i) a) (hb:jno (L.drop (i+1)) b):jnV 46 p L (.nd jwl p 0 ((jns (jm4 L 1 e)).headD ⟨#[]⟩) [] [a,b]):=by
 intro n bl off cap bt w hn hL h0 Z q7 K hr U;subst hn;have HR:=jH hr;have HK:=jH U;have HE:=jH he;have HI:=jH hi;have HA:=jH ha;have HB:=jH hb;have I:=joV U (i:=1) (by omega);have e4:((jC (jD L 1)).toList == [114,101,99])=false:=by rw[nk4 I];simp;omega
 have q4:((jC (jD L 1)).toList == [40])=false:=by rw[joq I];simp;omega
 have hk:=joJ hr U (i:=1) (by omega)
 obtain⟨nm,h9⟩:∃nm,jC (jD L 1)=nm:=⟨_,rfl⟩
 rw[h9]at e4 q4 hk;simp only[Nat.one_mul]at hk;have h6:Hid ((jm4 L 1 e).length=e-1):=jn1 L h1 (by omega)
 obtain⟨R,H⟩:∃R,jns (jm4 L 1 e)=R:=⟨_,rfl⟩
 have k7:=jH H;rw[H]at Y ⊢;have q8:=jH K;clear hr U he hi ha hb h9 I H K
 obtain⟨x0,r2,rfl⟩:∃x r,R=x ::r:=by
  cases R with
  |nil=>simp at Y
  |cons x r=>exact⟨x,r,rfl⟩
 go_enter Tryz.func46,Tryz.ntmps46
 go_wp2_with (first
  |(go_at_call 47;refine(jqv (i0:=1) (i:=e) (op:=99) (cl:=27) (by omega) hL h0 HR.o HK.o (by omega) (by exact fun k hk=>jsn hk) (by exact jvE) (by decide) HE.o).mono ?_;rintro _ w' ⟨rfl,h5⟩;subst h5)
  |(go_at_call 47;refine(jqv (i0:=1) (i:=i) (op:=3) (cl:=5) (by omega) hL h0 HR.o HK.o (by omega) (by exact jvD) (by exact jvC) (by decide) HI.o).mono ?_;rintro _ w' ⟨rfl,h5⟩;subst h5)
  |(go_at_call 48;refine(jsZ (L:=jm4 L 1 e) (by rw[h6.out]) (by rw[h6.out];omega) (by rw[h6.out];omega) (by omega) (by exact HR.o.cut 1 e) (jo4 HK.o 1 e)).mono ?_;rintro _ w1 ⟨v1,rfl,O,E⟩;rw[k7.o]at O;have x7:=jsh O;obtain⟨sg,r4,rfl,x3,v6,r7,x5⟩:=jnX O (by simp);have k8:=O.cellAt 0 (by simp);simp only[Kt,List.getElem?_cons_zero]at k8;have x1:=E.size;have k2:Hid (RW w1 bl off L):=HR.o.below E (by omega);have v4:=(E.cell (p:=⟨bl,off+3,none⟩) (by show bl<_;omega)).trans hk;have A:=jng q8.o E q7;have v9:=jmp A 0 rfl;have v0:=jmp A 3 rfl;have x6:=jmp A 4 rfl;have r9:=jne A 0;have v7:=jne A 3;have x2:=jne A 4)
  |(go_at_call 23;refine(HA.o _ bl _ _ _ (by rw[jn1 _ (by omega) (by omega)]) (by rw[jn1 _ (by omega) (by omega)];omega) (by rw[jn1 _ (by omega) (by omega)];omega) (by simp only[size_setCell];omega) (by exact(k2.o.below (jnm.below (((jnm.refl bt w1).set _).set _)) Z).cut (e+1) i) (jo4 HK.o (e+1) i)).mono ?_;rintro _ w2 ⟨v2,rfl,k1,h8⟩;obtain⟨p2,rfl,q5,r5⟩:=k1.ptr;obtain⟨r8,W,k5⟩:=jra h8 (((jnm.refl bt w1).set _).set _) (by omega);have h7:=jng (block_setCell (block_setCell A 0 _) 3 _) h8 (by simp only[size_setCell];omega);have q6:Hid (RW w2 bl off L):=k2.o.below W Z;simp only[size_setCell]at q5)
  |(go_at_call 23;refine(HB.o _ bl _ _ _ (by rw[Ys]) (by rw[Ys];omega) (by rw[Ys];omega) (by omega) (by exact q6.o.drop (i+1)) (jp0 HK.o (i+1))).mono ?_;rintro _ w3 ⟨v3,rfl,k4,F⟩;obtain⟨p3,rfl,x4,r3⟩:=k4.ptr;have r1:=F.size;have C:=jng h7 F (by omega);have r6:=jol C 5 rfl;have v5:=jpD C 5))
 go_ret;have v8:w1.heap.size<=w3.heap.size:=by omega
 have q9:jpV (bt+1) w1.heap.size w1 w3:=fun b h1 h2=>(F.block b (by omega)).trans (k5 b h1 h2);refine⟨_,rfl,jqy (ps:=[.pointer (some ⟨p2,0,none⟩),.pointer (some ⟨p3,0,none⟩)]) C jN rfl (Or.inl ⟨rfl,_,_,rfl⟩) (.cons ((k1.keep (jqH F _)).wide (by simp only[size_setCell];omega) (by omega)) (.cons (k4.wide (by omega) jN) .nil)),?_⟩;exact((((E.mono (by omega)).trans W)).trans (F.mono (by omega))).alloc (by omega) _ |>.setCell jN _
set_option maxRecDepth 100000 in
theorem jFa {b:G}(he:mtL L 1 99 27=e) (hi:mtL L 1 3 5=i) (h1:1<=e) (h2:e+1<i) (h3:i+1<L.length) (K:2<=(jns (jm4 L 1 e)).length) (h4:jD L 1=4)
 (ha:jno (jm4 L (e+1) i) a) (hb:jno (L.drop (i+1)) b):jnV 46 p L (.nd jwf p 0 ((jns (jm4 L 1 e)).headD ⟨#[]⟩) (jns (jm4 L 1 e)).tail [a,b]):=by
 intro n bl off cap bt w hn hL h0 Z r2 O hr W;subst hn;have HR:=jH hr;have HK:=jH W;have HE:=jH he;have HI:=jH hi;have HA:=jH ha;have HB:=jH hb;have I:=joV W (i:=1) (by omega);have e4:((jC (jD L 1)).toList == [114,101,99])=true:=by rw[nk4 I];simp;omega
 have q7:((jC (jD L 1)).toList == [40])=false:=by rw[joq I];simp;omega
 have hk:=joJ hr W (i:=1) (by omega)
 obtain⟨nm,k1⟩:∃nm,jC (jD L 1)=nm:=⟨_,rfl⟩
 rw[k1]at e4 q7 hk;simp only[Nat.one_mul]at hk;have h6:Hid ((jm4 L 1 e).length=e-1):=jn1 L h1 (by omega)
 obtain⟨U,H⟩:∃U,jns (jm4 L 1 e)=U:=⟨_,rfl⟩
 have q4:=jH H;rw[H]at K ⊢;have r3:=jH O;clear hr W he hi ha hb k1 I H O
 obtain⟨x0,r6,rfl⟩:∃x r,U=x ::r:=by
  cases U with
  |nil=>simp at K
  |cons x r=>exact⟨x,r,rfl⟩
 go_enter Tryz.func46,Tryz.ntmps46
 go_wp2_with (first
  |(go_at_call 47;refine(jqv (i0:=1) (i:=e) (op:=99) (cl:=27) (by omega) hL h0 HR.o HK.o (by omega) (by exact fun k hk=>jsn hk) (by exact jvE) (by decide) HE.o).mono ?_;rintro _ w' ⟨rfl,h5⟩;subst h5)
  |(go_at_call 47;refine(jqv (i0:=1) (i:=i) (op:=3) (cl:=5) (by omega) hL h0 HR.o HK.o (by omega) (by exact jvD) (by exact jvC) (by decide) HI.o).mono ?_;rintro _ w' ⟨rfl,h5⟩;subst h5)
  |(go_at_call 48;refine(jsZ (L:=jm4 L 1 e) (by rw[h6.out]) (by rw[h6.out];omega) (by rw[h6.out];omega) (by omega) (by exact HR.o.cut 1 e) (jo4 HK.o 1 e)).mono ?_;rintro _ w1 ⟨v1,rfl,R,E⟩;rw[q4.o]at R;have r4:=jsh R;obtain⟨sg,k9,rfl,x4,v8,q6,x6⟩:=jnX R (by simp);have q5:=R.cellAt 0 (by simp);simp only[Kt,List.getElem?_cons_zero]at q5;have x2:=E.size;have k4:Hid (RW w1 bl off L):=HR.o.below E (by omega);have v6:=(E.cell (p:=⟨bl,off+3,none⟩) (by show bl<_;omega)).trans hk;have A:=jng r3.o E r2;have x1:=jmp A 0 rfl;have v5:=jmp A 3 rfl;have x8:=jmp A 4 rfl;have v4:=jne A 0;have v9:=jne A 3;have x3:=jne A 4;have k7:=jDi r4;have x7:¬k9=1:=by(simp only[Yk]at K q6;omega))
  |(go_at_call 23;refine(HA.o _ bl _ _ _ (by rw[jn1 _ (by omega) (by omega)]) (by rw[jn1 _ (by omega) (by omega)];omega) (by rw[jn1 _ (by omega) (by omega)];omega) (by simp only[size_setCell];omega) (by exact(k4.o.below (jnm.below (((((jnm.refl bt w1).set _).set _).set _).set _)) Z).cut (e+1) i) (jo4 HK.o (e+1) i)).mono ?_;rintro _ w2 ⟨v2,rfl,k2,h9⟩;obtain⟨p2,rfl,q8,r8⟩:=k2.ptr;obtain⟨v0,Y,k8⟩:=jra h9 (((((jnm.refl bt w1).set _).set _).set _).set _) (by omega);have h7:=jng (block_setCell (block_setCell (block_setCell (block_setCell A 0 _) 3 _) 0 _) 4 _) h9 (by simp only[size_setCell];omega);have r1:Hid (RW w2 bl off L):=k4.o.below Y Z;simp only[size_setCell]at q8)
  |(go_at_call 23;refine(HB.o _ bl _ _ _ (by rw[Ys]) (by rw[Ys];omega) (by rw[Ys];omega) (by omega) (by exact r1.o.drop (i+1)) (jp0 HK.o (i+1))).mono ?_;rintro _ w3 ⟨v3,rfl,k5,F⟩;obtain⟨p3,rfl,x5,r7⟩:=k5.ptr;have r5:=F.size;have C:=jng h7 F (by omega);have r9:=jol C 5 rfl;have v7:=jpD C 5))
 go_ret;have q9:w1.heap.size<=w3.heap.size:=by omega
 have h8:jpV (bt+1) w1.heap.size w1 w3:=fun b h1 h2=>(F.block b (by omega)).trans (k8 b h1 h2);refine⟨_,rfl,jqy (ps:=[.pointer (some ⟨p2,0,none⟩),.pointer (some ⟨p3,0,none⟩)]) C jN rfl (((jpl.wide (B':=bt+1) k7 (by omega) jN).keep h8).wide jN q9) (.cons ((k2.keep (jqH F _)).wide (by simp only[size_setCell];omega) (by omega)) (.cons (k5.wide (by omega) jN) .nil)),?_⟩;exact((((E.mono (by omega)).trans Y)).trans (F.mono (by omega))).alloc (by omega) _ |>.setCell jN _
set_option maxRecDepth 100000 in
theorem jFb {b:G}(he:mtL L 1 99 27=e) (hi:mtL L 1 3 5=i) (h1:1<=e) (h2:e+1<i) (h3:i+1<L.length) (Y:(jns (jm4 L 1 e)).length≠0) (q4:jD L 1=23)
 (ha:jno (jm4 L (e+1) i) a) (hb:jno (L.drop (i+1)) b):jnV 46 p L (.nd jwh p 0 f_0 (jns (jm4 L 1 e)) [a,b]):=by
 intro n bl off cap bt w hn hL h0 Z q9 K hr U;subst hn;have HR:=jH hr;have HK:=jH U;have HE:=jH he;have HI:=jH hi;have HA:=jH ha;have HB:=jH hb;have I:=joV U (i:=1) (by omega);have e4:((jC (jD L 1)).toList == [114,101,99])=false:=by rw[nk4 I];simp;omega
 have q5:((jC (jD L 1)).toList == [40])=true:=by rw[joq I];simp;omega
 have hk:=joJ hr U (i:=1) (by omega)
 obtain⟨nm,h9⟩:∃nm,jC (jD L 1)=nm:=⟨_,rfl⟩
 rw[h9]at e4 q5 hk;simp only[Nat.one_mul]at hk;have h5:Hid ((jm4 L 1 e).length=e-1):=jn1 L h1 (by omega)
 obtain⟨R,H⟩:∃R,jns (jm4 L 1 e)=R:=⟨_,rfl⟩
 have k8:=jH H;rw[H]at Y ⊢;have r1:=jH K;clear hr U he hi ha hb h9 I H K
 obtain⟨x0,r4,rfl⟩:∃x r,R=x ::r:=by
  cases R with
  |nil=>simp at Y
  |cons x r=>exact⟨x,r,rfl⟩
 go_enter Tryz.func46,Tryz.ntmps46
 go_wp2_with (first
  |(go_at_call 47;refine(jqv (i0:=1) (i:=e) (op:=99) (cl:=27) (by omega) hL h0 HR.o HK.o (by omega) (by exact fun k hk=>jsn hk) (by exact jvE) (by decide) HE.o).mono ?_;rintro _ w' ⟨rfl,h4⟩;subst h4)
  |(go_at_call 47;refine(jqv (i0:=1) (i:=i) (op:=3) (cl:=5) (by omega) hL h0 HR.o HK.o (by omega) (by exact jvD) (by exact jvC) (by decide) HI.o).mono ?_;rintro _ w' ⟨rfl,h4⟩;subst h4)
  |(go_at_call 48;refine(jsZ (L:=jm4 L 1 e) (by rw[h5.out]) (by rw[h5.out];omega) (by rw[h5.out];omega) (by omega) (by exact HR.o.cut 1 e) (jo4 HK.o 1 e)).mono ?_;rintro _ w1 ⟨v1,rfl,O,E⟩;rw[k8.o]at O;have r2:=jsh O;obtain⟨sg,r6,rfl,x4,v8,r9,x6⟩:=jnX O (by simp);have k9:=O.cellAt 0 (by simp);simp only[Kt,List.getElem?_cons_zero]at k9;have x2:=E.size;have k2:Hid (RW w1 bl off L):=HR.o.below E (by omega);have v6:=(E.cell (p:=⟨bl,off+3,none⟩) (by show bl<_;omega)).trans hk;have A:=jng r1.o E q9;have x1:=jmp A 0 rfl;have v5:=jmp A 3 rfl;have x7:=jmp A 4 rfl;have v4:=jne A 0;have v9:=jne A 3;have x3:=jne A 4;have k5:=r2)
  |(go_at_call 23;refine(HA.o _ bl _ _ _ (by rw[jn1 _ (by omega) (by omega)]) (by rw[jn1 _ (by omega) (by omega)];omega) (by rw[jn1 _ (by omega) (by omega)];omega) (by simp only[size_setCell];omega) (by exact(k2.o.below (jnm.below ((((((jnm.refl bt w1).set _).set _).set _).set _).set _)) Z).cut (e+1) i) (jo4 HK.o (e+1) i)).mono ?_;rintro _ w2 ⟨v2,rfl,k1,h8⟩;obtain⟨p2,rfl,q6,r7⟩:=k1.ptr;obtain⟨v0,W,k7⟩:=jra h8 ((((((jnm.refl bt w1).set _).set _).set _).set _).set _) (by omega);have h6:=jng (block_setCell (block_setCell (block_setCell (block_setCell (block_setCell A 0 _) 3 _) 0 _) 3 _) 4 _) h8 (by simp only[size_setCell];omega);have q8:Hid (RW w2 bl off L):=k2.o.below W Z;simp only[size_setCell]at q6)
  |(go_at_call 23;refine(HB.o _ bl _ _ _ (by rw[Ys]) (by rw[Ys];omega) (by rw[Ys];omega) (by omega) (by exact q8.o.drop (i+1)) (jp0 HK.o (i+1))).mono ?_;rintro _ w3 ⟨v3,rfl,k4,F⟩;obtain⟨p3,rfl,x5,r5⟩:=k4.ptr;have r3:=F.size;have C:=jng h6 F (by omega);have r8:=jol C 5 rfl;have v7:=jpD C 5))
 go_ret;have q7:w1.heap.size<=w3.heap.size:=by omega
 have h7:jpV (bt+1) w1.heap.size w1 w3:=fun b h1 h2=>(F.block b (by omega)).trans (k7 b h1 h2);refine⟨_,rfl,jqy (ps:=[.pointer (some ⟨p2,0,none⟩),.pointer (some ⟨p3,0,none⟩)]) C jN rfl (((jpl.wide (B':=bt+1) k5 (by omega) jN).keep h7).wide jN q7) (.cons ((k1.keep (jqH F _)).wide (by simp only[size_setCell];omega) (by omega)) (.cons (k4.wide (by omega) jN) .nil)),?_⟩;exact((((E.mono (by omega)).trans W)).trans (F.mono (by omega))).alloc (by omega) _ |>.setCell jN _
set_option maxRecDepth 100000 in
theorem juI (O:jD L 0=3) (hl:0<L.length) (hs:jnV 46 (jm7 L 0).p L g):jno L g:=by
 intro n bl off cap w hn Z K F C A;subst hn;have hk:=joJ C A (i:=0) (by omega);have R:=jpv C (i:=0) (by omega);rw[O]at hk;simp only[Kv,Kz]at hk R;have HR:=jH C;have W:=jH A;have Y:((jC 3).toList == [108,101,116])=true:=by rw[nk3 (by decide)];decide
 obtain⟨nm,H⟩:∃nm,jC 3=nm:=⟨_,rfl⟩
 rw[H]at hk Y
 obtain⟨p0,I⟩:∃p0:Int,((jm7 L 0).p:Int)=p0:=⟨_,rfl⟩
 rw[I]at R hs;have HS:=jH hs;clear C A O H I hs
 go_enter Tryz.func23,Tryz.ntmps23
 go_wp2_with (go_at_call 46;refine(HS.o _ bl off cap w.heap.size _ rfl Z K F (by simp) (by exact jnC w _) (HR.o.alloc F _) W.o).mono ?_;rintro e w1 ⟨v1,rfl,E,U⟩;obtain⟨p1,rfl,h2,h1⟩:=E.ptr)
 go_ret;exact⟨_,rfl,E,((Ko w.heap.size w).alloc jN _).trans U⟩
def joK:Nat->Nat
 |0=>26
 |1=>27
 |2=>30
 |_=>32
def jp7:Nat->ByteArray
 |0=>⟨#[59]⟩
 |1=>⟨#[61]⟩
 |2=>⟨#[43]⟩
 |_=>⟨#[42]⟩
abbrev jpC:Obj:=.cells #[.string ⟨#[59]⟩,.string ⟨#[61]⟩,.string ⟨#[43]⟩,.string ⟨#[42]⟩] 9 (0,0)
variable {c:Nat}
theorem jAf (A:c<4):((jp7 c).toList == [59])=decide (c=0):=by
 have:∀c:Fin 4,((jp7 c.val).toList == [59])=decide (c.val=0):=by
  intro c;rw[Ye]
  revert c
  decide
 exact this ⟨c,A⟩
theorem jsg (L:List Tok) (K:c<4) (F:L.length<=100000) (A:1<=L.length) (H:L.length<=cap) (E:b<w.heap.size) (I:RW w b off L) (C:∀t ∈ L,jnl t) (hi:spl (joK c) L=i) :
 Calls Tryz.prog 49 #[.slice (some ⟨b,off,none⟩) L.length cap,.string (jp7 c)] w fun e w'=>e= .returned (.int .i64 (i:Nat))/\Below w.heap.size w w':=by
 subst hi
 match c,K with
 |0,_=>exact jJF (.inl ⟨rfl,rfl⟩) L b off cap w F A H E I C
 |1,_=>exact jJF (.inr (.inl ⟨rfl,rfl⟩)) L b off cap w F A H E I C
 |2,_=>exact jJF (.inr (.inr (.inl ⟨rfl,rfl⟩))) L b off cap w F A H E I C
 |3,_=>exact jJF (.inr (.inr (.inr ⟨rfl,rfl⟩))) L b off cap w F A H E I C
theorem jxP (L:List Tok) {cb:ByteArray}(A:jp7 c=cb) (C:c<4) (I:L.length<=100000) (E:1<=L.length) (K:L.length<=cap) (H:b<w.heap.size) (O:RW w b off L) (F:∀t ∈ L,jnl t) (hi:spl (joK c) L=i) :
 Calls Tryz.prog 49 #[.slice (some ⟨b,off,none⟩) L.length cap,.string cb] w fun e w'=>e= .returned (.int .i64 (i:Nat))/\Below w.heap.size w w':=by
 subst A;exact jsg L C I E K H O F hi
theorem jsH (w:World) (p0:Int) {wr:World}(A:Below (w.heap.size+2) ((w.alloc (jnL p0)).alloc jpC) wr) (k:Nat) (hk:k<4):wr.cell? ⟨w.heap.size+1,k,none⟩=some (.string (jp7 k)):=by
 rw[A.cell (p:=⟨w.heap.size+1,k,none⟩) (by show w.heap.size+1<_;omega)]
 have h:((w.alloc (jnL p0)).alloc jpC).heap[w.heap.size+1]? =some jpC:=by
  have:=jnC (w.alloc (jnL p0)) jpC;simpa using this
 rw[(cells_of_block h k).1]
 match k,hk with
 |0,_=>rfl
 |1,_=>rfl
 |2,_=>rfl
 |3,_=>rfl
set_option maxRecDepth 100000 in
theorem jBu {b:G}(r7:c<4) (hc:c=0) (h3:jD L 0≠3) (h6:jD L 0≠6) (h9:jD L 0≠9) (hz:∀d,d<c->spl (joK d) L=0) (hi:spl (joK c) L=i) (r2:0<i) (q8:i+1<L.length)
 (ha:jno (jm4 L 0 i) a) (hb:jno (L.drop (i+1)) b):jno L (.nd jwe (jm7 L i).p 0 f_0 [] [a,b]):=by
 intro n bl off cap w hn hL q6 Y W U;subst hn;have K:0<L.length:=by omega
 have hk:=joJ W U (i:=0) K;have hp:=jpv W (i:=0) K;have E:=joV U (i:=0) K;simp only[Kv,Kz]at hk hp;have HR:=jH W;have HK:=jH U;have e1:((jC (jD L 0)).toList == [108,101,116])=false:=by rw[nk3 E];simpa using h3
 have e2:((jC (jD L 0)).toList == [105,102])=false:=by rw[nk6 E];simpa using h6
 have e3:((jC (jD L 0)).toList == [102,117,110])=false:=by rw[nk9 E];simpa using h9
 have k4:=jpv W (i:=i) (by omega);have k5:=jsV W (i:=i) (by omega)
 obtain⟨nm,h8⟩:∃nm,jC (jD L 0)=nm:=⟨_,rfl⟩
 rw[h8]at hk e1 e2 e3;have HA:=jH ha;have HB:=jH hb;have HZ:=jH hz;have HI:=jH hi
 obtain⟨p0,k8⟩:∃p0:Int,((jm7 L 0).p:Int)=p0:=⟨_,rfl⟩
 obtain⟨pi,h2⟩:∃pi:Int,((jm7 L i).p:Int)=pi:=⟨_,rfl⟩
 obtain⟨ti,h1⟩:∃ti:ByteArray,(jm7 L i).t=ti:=⟨_,rfl⟩
 rw[k8]at hp;rw[h2]at k4 ⊢;rw[h1]at k5;clear W U hi hz h3 h6 h9 h8 ha hb k8 h2 h1 E
 go_enter Tryz.func23,Tryz.ntmps23
 go_wp2_with fail
 go_loopw [12] (fun v wr=>∃k:Nat,k<=c/\v= .int .i64 k/\Below (w.heap.size+2) ((w.alloc (jnL p0)).alloc jpC) wr) (fun v _=>4-(intOf v).toNat)
 case atStart=>exact⟨0,Yi _,rfl,jB⟩
 case round=>
  obtain⟨k,v8,rfl,I⟩:=hrel;have q9:=I.size;simp only[Ya]at q9;have H:Below w.heap.size w wr:=(((Ko w.heap.size w).alloc jN _).alloc (by simp) _).trans (I.mono (by omega));have h7:Hid (RW wr bl off L):=HR.o.below H Y;have k2:=jsH w p0 I k (by omega);have O:=jng (jng (jnC w (jnL p0)) (jB.alloc jN jpC) (by simp)) I (by omega);have r6:=jH O;clear O
  by_cases r5:k<c
  .exact absurd r5 (by omega)
  .have hkc':k=c:=by omega
   subst hkc';have r4:((jp7 k).toList == [59])=true:=jAf (by omega) |>.trans (by simp;omega);clear hc
   obtain⟨cb,h0⟩:∃cb,jp7 k=cb:=⟨_,rfl⟩
   have r3:=jH h0;rw[h0]at r4 k2;have q5:=(H.cell (p:=⟨bl,off+i*3+2,none⟩) (by show bl<_;omega)).trans k4;have q4:=(H.cell (p:=⟨bl,off+i*3+1,none⟩) (by show bl<_;omega)).trans k5;clear h0
   go_wp2_with (first
    |(go_at_call 49;refine(jxP L (c:=k) r3.o (by omega) hL K q6 (by omega) h7.o HK.o HI.o).mono ?_;rintro _ w1 ⟨rfl,C⟩;have x6:=C.size;have k7:Hid (RW w1 bl off L):=h7.o.below C (by omega);have v0:=(C.cell (p:=⟨bl,off+i*3+2,none⟩) (by show bl<_;omega)).trans q5;have v1:=(C.cell (p:=⟨bl,off+i*3+1,none⟩) (by show bl<_;omega)).trans q4;have r8:=(C.cell (p:=⟨w.heap.size+1,k,none⟩) (by show w.heap.size+1<_;omega)).trans k2;have A:=jng r6.o C (by omega);have x5:=jmp A 0 rfl;have x7:=jmp A 1 rfl;have x1:=jmp A 3 rfl;have x0:=jne A 0;have x3:=jne A 1;have x4:=jne A 3)
    |(go_at_call 23;refine(HA.o _ bl _ _ _ (by rw[jn1 _ (by omega) (by omega)];omega) (by rw[jn1 _ (by omega) (by omega)];omega) (by rw[jn1 _ (by omega) (by omega)];omega) (by simp only[size_setCell];omega) (by exact(k7.o.below (jnm.below ((((((jnm.refl w.heap.size w1).set _).set _).set _).set _).set _)) Y).cut 0 i) (jo4 HK.o 0 i)).mono ?_;rintro _ w2 ⟨v2,rfl,k1,h5⟩;obtain⟨p2,rfl,q7,v6⟩:=k1.ptr;obtain⟨v9,Z,v4⟩:=jra h5 ((((((jnm.refl w.heap.size w1).set _).set _).set _).set _).set _) (by omega);have h4:=jng (block_setCell (block_setCell (block_setCell (block_setCell (block_setCell A 1 _) 0 _) 3 _) 0 _) 3 _) h5 (by simp only[size_setCell];omega);have r1:Hid (RW w2 bl off L):=k7.o.below Z Y;simp only[size_setCell]at q7)
    |(go_at_call 23;refine(HB.o _ bl _ _ _ (by rw[Ys]) (by rw[Ys];omega) (by rw[Ys];omega) (by omega) (by exact r1.o.drop (i+1)) (jp0 HK.o (i+1))).mono ?_;rintro _ w3 ⟨v3,rfl,k9,R⟩;obtain⟨p3,rfl,x8,v5⟩:=k9.ptr;have r9:=R.size;have F:=jng h4 R (by omega);have v7:=jol F 5 rfl;have x2:=jpD F 5))
   go_ret;refine⟨_,rfl,jqy (ps:=[.pointer (some ⟨p2,0,none⟩),.pointer (some ⟨p3,0,none⟩)]) F jN rfl (Or.inl ⟨rfl,_,_,rfl⟩) (.cons ((k1.keep (jqH R _)).wide (by simp only[size_setCell];omega) (by omega)) (.cons (k9.wide (by omega) jN) .nil)),?_⟩;exact((((H.trans (C.mono (by omega))).trans Z)).trans (R.mono (by omega))).alloc (by omega) _ |>.setCell jN _
set_option maxRecDepth 100000 in
theorem juH {b:G}(r7:c<4) (hc:0<c) (h3:jD L 0≠3) (h6:jD L 0≠6) (h9:jD L 0≠9) (hz:∀d,d<c->spl (joK d) L=0) (hi:spl (joK c) L=i) (r2:0<i) (q8:i+1<L.length)
 (ha:jno (jm4 L 0 i) a) (hb:jno (L.drop (i+1)) b):jno L (.nd jsz (jm7 L i).p 0 (jm7 L i).t [] [a,b]):=by
 intro n bl off cap w hn hL h5 Y W U;subst hn;have I:0<L.length:=by omega
 have hk:=joJ W U (i:=0) I;have hp:=jpv W (i:=0) I;have E:=joV U (i:=0) I;simp only[Kv,Kz]at hk hp;have HR:=jH W;have HK:=jH U;have e1:((jC (jD L 0)).toList == [108,101,116])=false:=by rw[nk3 E];simpa using h3
 have e2:((jC (jD L 0)).toList == [105,102])=false:=by rw[nk6 E];simpa using h6
 have e3:((jC (jD L 0)).toList == [102,117,110])=false:=by rw[nk9 E];simpa using h9
 have k5:=jpv W (i:=i) (by omega);have k7:=jsV W (i:=i) (by omega)
 obtain⟨nm,k1⟩:∃nm,jC (jD L 0)=nm:=⟨_,rfl⟩
 rw[k1]at hk e1 e2 e3;have HA:=jH ha;have HB:=jH hb;have HZ:=jH hz;have HI:=jH hi
 obtain⟨p0,k9⟩:∃p0:Int,((jm7 L 0).p:Int)=p0:=⟨_,rfl⟩
 obtain⟨pi,h4⟩:∃pi:Int,((jm7 L i).p:Int)=pi:=⟨_,rfl⟩
 obtain⟨ti,h2⟩:∃ti:ByteArray,(jm7 L i).t=ti:=⟨_,rfl⟩
 rw[k9]at hp;rw[h4]at k5 ⊢;rw[h2]at k7 ⊢;clear W U hi hz h3 h6 h9 k1 ha hb k9 h4 h2 E
 go_enter Tryz.func23,Tryz.ntmps23
 go_wp2_with fail
 go_loopw [12] (fun v wr=>∃k:Nat,k<=c/\v= .int .i64 k/\Below (w.heap.size+2) ((w.alloc (jnL p0)).alloc jpC) wr) (fun v _=>4-(intOf v).toNat)
 case atStart=>exact⟨0,Yi _,rfl,jB⟩
 case round=>
  obtain⟨k,v8,rfl,H⟩:=hrel;have q9:=H.size;simp only[Ya]at q9;have K:Below w.heap.size w wr:=(((Ko w.heap.size w).alloc jN _).alloc (by simp) _).trans (H.mono (by omega));have h0:Hid (RW wr bl off L):=HR.o.below K Y;have k4:=jsH w p0 H k (by omega);have O:=jng (jng (jnC w (jnL p0)) (jB.alloc jN jpC) (by simp)) H (by omega);have r6:=jH O;clear O
  by_cases r5:k<c
  .have HZK:Hid (spl (joK k) L=0):=HZ.o k r5
   go_wp2_with (go_at_call 49;refine(jsg L (c:=k) (by omega) hL I h5 (by omega) h0.o HK.o HZK.o).mono ?_;rintro _ w1 ⟨rfl,C⟩)
   go_roundw
   case rel=>exact⟨k+1,by omega,by go_num,H.trans (C.mono (by omega))⟩
   case measure=>simp[intOf];omega
  .have hkc':k=c:=by omega
   subst hkc';have r4:((jp7 k).toList == [59])=false:=jAf (by omega) |>.trans (by simp;omega);clear hc
   obtain⟨cb,h1⟩:∃cb,jp7 k=cb:=⟨_,rfl⟩
   have r3:=jH h1;rw[h1]at r4 k4;have q6:=(K.cell (p:=⟨bl,off+i*3+2,none⟩) (by show bl<_;omega)).trans k5;have q5:=(K.cell (p:=⟨bl,off+i*3+1,none⟩) (by show bl<_;omega)).trans k7;clear h1
   go_wp2_with (first
    |(go_at_call 49;refine(jxP L (c:=k) r3.o (by omega) hL I h5 (by omega) h0.o HK.o HI.o).mono ?_;rintro _ w1 ⟨rfl,C⟩;have x6:=C.size;have k8:Hid (RW w1 bl off L):=h0.o.below C (by omega);have v0:=(C.cell (p:=⟨bl,off+i*3+2,none⟩) (by show bl<_;omega)).trans q6;have v1:=(C.cell (p:=⟨bl,off+i*3+1,none⟩) (by show bl<_;omega)).trans q5;have r8:=(C.cell (p:=⟨w.heap.size+1,k,none⟩) (by show w.heap.size+1<_;omega)).trans k4;have A:=jng r6.o C (by omega);have x5:=jmp A 0 rfl;have x7:=jmp A 1 rfl;have x1:=jmp A 3 rfl;have x0:=jne A 0;have x3:=jne A 1;have x4:=jne A 3)
    |(go_at_call 23;refine(HA.o _ bl _ _ _ (by rw[jn1 _ (by omega) (by omega)];omega) (by rw[jn1 _ (by omega) (by omega)];omega) (by rw[jn1 _ (by omega) (by omega)];omega) (by simp only[size_setCell];omega) (by exact(k8.o.below (jnm.below ((((jnm.refl w.heap.size w1).set _).set _).set _)) Y).cut 0 i) (jo4 HK.o 0 i)).mono ?_;rintro _ w2 ⟨v2,rfl,k2,h8⟩;obtain⟨p2,rfl,q7,v6⟩:=k2.ptr;obtain⟨v9,Z,v4⟩:=jra h8 ((((jnm.refl w.heap.size w1).set _).set _).set _) (by omega);have h7:=jng (block_setCell (block_setCell (block_setCell A 1 _) 0 _) 3 _) h8 (by simp only[size_setCell];omega);have r1:Hid (RW w2 bl off L):=k8.o.below Z Y;simp only[size_setCell]at q7)
    |(go_at_call 23;refine(HB.o _ bl _ _ _ (by rw[Ys]) (by rw[Ys];omega) (by rw[Ys];omega) (by omega) (by exact r1.o.drop (i+1)) (jp0 HK.o (i+1))).mono ?_;rintro _ w3 ⟨v3,rfl,q4,R⟩;obtain⟨p3,rfl,x8,v5⟩:=q4.ptr;have r9:=R.size;have F:=jng h7 R (by omega);have v7:=jol F 5 rfl;have x2:=jpD F 5))
   go_ret;refine⟨_,rfl,jqy (ps:=[.pointer (some ⟨p2,0,none⟩),.pointer (some ⟨p3,0,none⟩)]) F jN rfl (Or.inl ⟨rfl,_,_,rfl⟩) (.cons ((k2.keep (jqH R _)).wide (by simp only[size_setCell];omega) (by omega)) (.cons (q4.wide (by omega) jN) .nil)),?_⟩;exact((((K.trans (C.mono (by omega))).trans Z)).trans (R.mono (by omega))).alloc (by omega) _ |>.setCell jN _
set_option maxRecDepth 100000 in
theorem jBw (h0:jD L 0=31) (hz:∀d,d<4->spl (joK d) L=0) (hl:1<L.length) (ha:jno (L.drop 1) a):jno L (.nd jwk (jm7 L 0).p 0 f_0 [] [a]):=by
 have h3:jD L 0≠3:=by omega
 have h6:jD L 0≠6:=by omega
 have h9:jD L 0≠9:=by omega
 intro n bl off cap w hn hL h5 U R I;subst hn;have H:0<L.length:=by omega
 have hk:=joJ R I (i:=0) H;have hp:=jpv R (i:=0) H;have A:=joV I (i:=0) H;simp only[Kv,Kz]at hk hp;have HR:=jH R;have HK:=jH I;have e1:((jC (jD L 0)).toList == [108,101,116])=false:=by rw[nk3 A];simpa using h3
 have e2:((jC (jD L 0)).toList == [105,102])=false:=by rw[nk6 A];simpa using h6
 have e3:((jC (jD L 0)).toList == [102,117,110])=false:=by rw[nk9 A];simpa using h9
 have e4:((jC (jD L 0)).toList == [45])=true:=by rw[jqt A];simp;omega
 have e5:((jC (jD L 0)).toList == [110,111,116])=false:=by rw[jsq A];simp;omega
 obtain⟨nm,Z⟩:∃nm,jC (jD L 0)=nm:=⟨_,rfl⟩
 rw[Z]at hk e1 e2 e3 e4 e5
 obtain⟨p0,h2⟩:∃p0:Int,((jm7 L 0).p:Int)=p0:=⟨_,rfl⟩
 have HA:=jH ha;have HZ:=jH hz;rw[h2]at hp ⊢;clear R I hz Z ha h2 A;clear h0;clear h3 h6 h9
 go_enter Tryz.func23,Tryz.ntmps23
 go_wp2_with fail
 go_loopw [12] (fun v wr=>∃k:Nat,k<=4/\v= .int .i64 k/\Below (w.heap.size+2) ((w.alloc (jnL p0)).alloc jpC) wr) (fun v _=>4-(intOf v).toNat)
 case atStart=>exact⟨0,by omega,rfl,jB⟩
 case round=>
  obtain⟨k,q4,rfl,E⟩:=hrel;have h7:=E.size;simp only[Ya]at h7;have K:Below w.heap.size w wr:=(((Ko w.heap.size w).alloc jN _).alloc (by simp) _).trans (E.mono (by omega));have Y:Hid (RW wr bl off L):=HR.o.below K U;have F:=jng (jng (jnC w (jnL p0)) (jB.alloc jN jpC) (by simp)) E (by omega);have O:=jH F;clear F
  by_cases k2:k<4
  .have HZK:Hid (spl (joK k) L=0):=HZ.o k k2
   have q8:=jsH w p0 E k (by omega)
   go_wp2_with (go_at_call 49;refine(jsg L (c:=k) (by omega) hL H h5 (by omega) Y.o HK.o HZK.o).mono ?_;rintro _ w1 ⟨rfl,h8⟩)
   go_roundw
   case rel=>exact⟨k+1,by omega,by go_num,E.trans (h8.mono (by omega))⟩
   case measure=>simp[intOf];omega
  .have hkc':k=4:=by omega
   subst hkc';have k7:=(K.cell (p:=⟨bl,off,none⟩) (by show bl<_;omega)).trans hk;have k9:=jmp O.o 0 rfl;have q6:=jne O.o 0
   go_wp2_with (go_at_call 23;refine(HA.o _ bl _ _ _ (by rw[Ys]) (by rw[Ys];omega) (by rw[Ys];omega) (by simp only[size_setCell];omega) (by exact(Y.o.below (jnm.below (((jnm.refl w.heap.size wr).set _).set _)) U).drop 1) (jp0 HK.o 1)).mono ?_;rintro _ w2 ⟨v2,rfl,h1,W⟩;obtain⟨p2,rfl,k1,k5⟩:=h1.ptr;obtain⟨q5,h4,k4⟩:=jra W (((jnm.refl w.heap.size wr).set _).set _) (by omega);have C:=jng (block_setCell (block_setCell (O.o) 0 _) 0 _) W (by simp only[size_setCell];omega);have k8:=jol C 5 rfl;have q7:=jpD C 5;simp only[size_setCell]at k1)
   go_ret;refine⟨_,rfl,jqy (ps:=[.pointer (some ⟨p2,0,none⟩)]) C jN rfl (Or.inl ⟨rfl,_,_,rfl⟩) (.cons (h1.wide (by simp only[size_setCell];omega) jN) .nil),?_⟩;exact(K.trans h4).alloc (by omega) _ |>.setCell jN _
set_option maxRecDepth 100000 in
theorem jBv (h0:jD L 0=10) (hz:∀d,d<4->spl (joK d) L=0) (hl:1<L.length) (ha:jno (L.drop 1) a):jno L (.nd jwj (jm7 L 0).p 0 f_0 [] [a]):=by
 have h3:jD L 0≠3:=by omega
 have h6:jD L 0≠6:=by omega
 have h9:jD L 0≠9:=by omega
 intro n bl off cap w hn hL h5 U R I;subst hn;have H:0<L.length:=by omega
 have hk:=joJ R I (i:=0) H;have hp:=jpv R (i:=0) H;have A:=joV I (i:=0) H;simp only[Kv,Kz]at hk hp;have HR:=jH R;have HK:=jH I;have e1:((jC (jD L 0)).toList == [108,101,116])=false:=by rw[nk3 A];simpa using h3
 have e2:((jC (jD L 0)).toList == [105,102])=false:=by rw[nk6 A];simpa using h6
 have e3:((jC (jD L 0)).toList == [102,117,110])=false:=by rw[nk9 A];simpa using h9
 have e4:((jC (jD L 0)).toList == [45])=false:=by rw[jqt A];simp;omega
 have e5:((jC (jD L 0)).toList == [110,111,116])=true:=by rw[jsq A];simp;omega
 obtain⟨nm,Z⟩:∃nm,jC (jD L 0)=nm:=⟨_,rfl⟩
 rw[Z]at hk e1 e2 e3 e4 e5
 obtain⟨p0,h2⟩:∃p0:Int,((jm7 L 0).p:Int)=p0:=⟨_,rfl⟩
 have HA:=jH ha;have HZ:=jH hz;rw[h2]at hp ⊢;clear R I hz Z ha h2 A;clear h0;clear h3 h6 h9
 go_enter Tryz.func23,Tryz.ntmps23
 go_wp2_with fail
 go_loopw [12] (fun v wr=>∃k:Nat,k<=4/\v= .int .i64 k/\Below (w.heap.size+2) ((w.alloc (jnL p0)).alloc jpC) wr) (fun v _=>4-(intOf v).toNat)
 case atStart=>exact⟨0,by omega,rfl,jB⟩
 case round=>
  obtain⟨k,q4,rfl,E⟩:=hrel;have h7:=E.size;simp only[Ya]at h7;have K:Below w.heap.size w wr:=(((Ko w.heap.size w).alloc jN _).alloc (by simp) _).trans (E.mono (by omega));have Y:Hid (RW wr bl off L):=HR.o.below K U;have F:=jng (jng (jnC w (jnL p0)) (jB.alloc jN jpC) (by simp)) E (by omega);have O:=jH F;clear F
  by_cases k2:k<4
  .have HZK:Hid (spl (joK k) L=0):=HZ.o k k2
   have q8:=jsH w p0 E k (by omega)
   go_wp2_with (go_at_call 49;refine(jsg L (c:=k) (by omega) hL H h5 (by omega) Y.o HK.o HZK.o).mono ?_;rintro _ w1 ⟨rfl,h8⟩)
   go_roundw
   case rel=>exact⟨k+1,by omega,by go_num,E.trans (h8.mono (by omega))⟩
   case measure=>simp[intOf];omega
  .have hkc':k=4:=by omega
   subst hkc';have k7:=(K.cell (p:=⟨bl,off,none⟩) (by show bl<_;omega)).trans hk;have k9:=jmp O.o 0 rfl;have q6:=jne O.o 0
   go_wp2_with (go_at_call 23;refine(HA.o _ bl _ _ _ (by rw[Ys]) (by rw[Ys];omega) (by rw[Ys];omega) (by simp only[size_setCell];omega) (by exact(Y.o.below (jnm.below ((jnm.refl w.heap.size wr).set _)) U).drop 1) (jp0 HK.o 1)).mono ?_;rintro _ w2 ⟨v2,rfl,h1,W⟩;obtain⟨p2,rfl,k1,k5⟩:=h1.ptr;obtain⟨q5,h4,k4⟩:=jra W ((jnm.refl w.heap.size wr).set _) (by omega);have C:=jng (block_setCell (O.o) 0 _) W (by simp only[size_setCell];omega);have k8:=jol C 5 rfl;have q7:=jpD C 5;simp only[size_setCell]at k1)
   go_ret;refine⟨_,rfl,jqy (ps:=[.pointer (some ⟨p2,0,none⟩)]) C jN rfl (Or.inl ⟨rfl,_,_,rfl⟩) (.cons (h1.wide (by simp only[size_setCell];omega) jN) .nil),?_⟩;exact(K.trans h4).alloc (by omega) _ |>.setCell jN _
set_option maxRecDepth 100000 in
theorem jBz (h3:jD L 0≠3) (h6:jD L 0≠6) (h9:jD L 0≠9) (Y:jD L 0≠31) (Z:jD L 0≠10) (hz:∀d,d<4->spl (joK d) L=0) (C:0<L.length) (ha:jnV 50 (jm7 L 0).p L a):jno L a:=by
 have hl:=C;intro n bl off cap w hn hL K W U H;subst hn;have C:0<L.length:=by omega
 have hk:=joJ U H (i:=0) C;have hp:=jpv U (i:=0) C;have A:=joV H (i:=0) C;simp only[Kv,Kz]at hk hp;have HR:=jH U;have HK:=jH H;have e1:((jC (jD L 0)).toList == [108,101,116])=false:=by rw[nk3 A];simpa using h3
 have e2:((jC (jD L 0)).toList == [105,102])=false:=by rw[nk6 A];simpa using h6
 have e3:((jC (jD L 0)).toList == [102,117,110])=false:=by rw[nk9 A];simpa using h9
 have e4:((jC (jD L 0)).toList == [45])=false:=by rw[jqt A];simp;omega
 have e5:((jC (jD L 0)).toList == [110,111,116])=false:=by rw[jsq A];simp;omega
 obtain⟨nm,h1⟩:∃nm,jC (jD L 0)=nm:=⟨_,rfl⟩
 rw[h1]at hk e1 e2 e3 e4 e5
 obtain⟨p0,R⟩:∃p0:Int,((jm7 L 0).p:Int)=p0:=⟨_,rfl⟩
 have HA:Hid (jnV 50 p0 L a):=(by rw[<-R];exact ha)
 have HZ:=jH hz;rw[R]at hp;clear U H hz h1 ha R A;clear Y Z;clear h3 h6 h9
 go_enter Tryz.func23,Tryz.ntmps23
 go_wp2_with fail
 go_loopw [12] (fun v wr=>∃k:Nat,k<=4/\v= .int .i64 k/\Below (w.heap.size+2) ((w.alloc (jnL p0)).alloc jpC) wr) (fun v _=>4-(intOf v).toNat)
 case atStart=>exact⟨0,by omega,rfl,jB⟩
 case round=>
  obtain⟨k,k5,rfl,E⟩:=hrel;have h4:=E.size;simp only[Ya]at h4;have I:Below w.heap.size w wr:=(((Ko w.heap.size w).alloc jN _).alloc (by simp) _).trans (E.mono (by omega));have h0:Hid (RW wr bl off L):=HR.o.below I W;have F:=jng (jng (jnC w (jnL p0)) (jB.alloc jN jpC) (by simp)) E (by omega);have O:=jH F;clear F
  by_cases h8:k<4
  .have HZK:Hid (spl (joK k) L=0):=HZ.o k h8
   have k9:=jsH w p0 E k (by omega)
   go_wp2_with (go_at_call 49;refine(jsg L (c:=k) (by omega) hL C K (by omega) h0.o HK.o HZK.o).mono ?_;rintro _ w1 ⟨rfl,h7⟩)
   go_roundw
   case rel=>exact⟨k+1,by omega,by go_num,E.trans (h7.mono (by omega))⟩
   case measure=>simp[intOf];omega
  .have hkc':k=4:=by omega
   subst hkc';have k2:=(I.cell (p:=⟨bl,off,none⟩) (by show bl<_;omega)).trans hk;have k4:=jmp O.o 0 rfl;have k7:=jne O.o 0
   go_wp2_with (go_at_call 50;refine(HA.o _ bl off cap w.heap.size _ rfl hL K W (by omega) O.o h0.o HK.o).mono ?_;rintro _ w2 ⟨v2,rfl,h2,h5⟩;obtain⟨p2,rfl,k8,k1⟩:=h2.ptr)
   go_ret;exact⟨_,rfl,h2,I.trans h5⟩
def HTa (w:World) (lo:Nat) (row:Option Nat):List Value->List G->Prop
 |[],[]=>True
 |v ::vs,g ::gs=>(∃B n,lo<=B/\n<=w.heap.size/\(∀r,row=some r->r<B\/n<=r)/\HT w B n v g)/\HTa w lo row vs gs
 |_,_=>False
variable {lo:Nat}{row:Option Nat}
theorem HTa.len :∀{vs:List Value}{gs:List G},HTa w lo row vs gs->vs.length=gs.length:=by
 intro vs
 induction vs with
 |nil=>intro gs h;cases gs with|nil=>rfl|cons=>exact h.elim
 |cons v vs ih=>intro gs h;cases gs with|nil=>exact h.elim|cons g gs=>simp[ih h.2]
theorem HTa.all :∀{vs:List Value}{gs:List G},HTa w lo row vs gs->HTs w lo w.heap.size vs gs:=by
 intro vs
 induction vs with
 |nil=>intro gs h;cases gs with|nil=>exact .nil|cons=>exact h.elim
 |cons v vs ih=>
  intro gs h
  cases gs with
  |nil=>exact h.elim
  |cons g gs=>
   obtain⟨⟨B,n,C,F,_,A⟩,E⟩:=h;exact .cons (A.wide C F) (ih E)
theorem HTa.snoc (A:∃B n,lo<=B/\n<=w.heap.size/\(∀r,row=some r->r<B\/n<=r)/\HT w B n v g):∀{vs:List Value}{gs:List G},HTa w lo row vs gs->HTa w lo row (vs ++[v]) (gs ++[g]):=by
 intro vs
 induction vs with
 |nil=>intro gs h;cases gs with|nil=>exact⟨A,trivial⟩|cons=>exact h.elim
 |cons u vs ih=>
  intro gs h
  cases gs with
  |nil=>exact h.elim
  |cons x gs=>exact⟨h.1,ih h.2⟩
theorem HTa.keep {w w':World}{lo:Nat}{row A:Option Nat}(E:w.heap.size<=w'.heap.size) (H:∀b,lo<=b->b<w.heap.size->row≠some b->w'.heap[b]? =w.heap[b]?) (C:A=row\/∃r,A=some r/\w.heap.size<=r) :
 ∀{vs:List Value}{gs:List G},HTa w lo row vs gs->HTa w' lo A vs gs:=by
 intro vs
 induction vs with
 |nil=>intro gs h;cases gs with|nil=>trivial|cons=>exact h.elim
 |cons v vs ih=>
  intro gs h
  cases gs with
  |nil=>exact h.elim
  |cons g gs=>
   obtain⟨⟨B,n,K,R,F,I⟩,O⟩:=h;refine⟨⟨B,n,K,by omega,fun r hrr=>?_,I.keep fun b hB hn=>H b (by omega) (by omega) fun hrow=>?_⟩,ih O⟩
   .rcases C with C|⟨r',C,hr2⟩
    .exact F r (by rw[<-C];exact hrr)
    .rw[C]at hrr;simp at hrr;omega
   .rcases F b hrow with h|h <;> omega
structure joC (w:World) (base:Nat) (kv:Value) (ps:List Value) (gs:List G):Prop where
 own:w.ownsRow base 31 1 kv ps.length ps
 ht:HTa w base kv.ownBlock ps gs
theorem joC.none (w:World) (base:Nat):joC w base (.slice none 0 0) [] []:=⟨Uk _ _ _ _,trivial⟩
structure jna (bt base:Nat) (w w':World):Prop where
 below:Below bt w w'
 rest:∀b,b<base->b≠bt->w'.heap[b]? =w.heap[b]?
theorem jna.refl (bt base:Nat) (w:World):jna bt base w w:=⟨jB,fun _ _ _=>rfl⟩
theorem jna.trans {bt base:Nat}{w w1 w2:World}(h:jna bt base w w1) (A:jna bt base w1 w2):jna bt base w w2:=
 ⟨h.below.trans A.below,fun b h1 h3=>(A.rest b h1 h3).trans (h.rest b h1 h3)⟩
variable {base:Nat}
theorem jna.of (h:Below base w w1) (A:bt<=base):jna bt base w w1:=⟨h.mono A,fun b h1 _=>h.block b h1⟩
theorem jna.sole (h:jnm bt w w1):jna bt base w w1:=⟨h.1,fun b _ h2=>h.2.2 b h2⟩
variable {kv:Value}
theorem jtx {F:Nat}{A:Value}(hk:joC w1 base kv ps gs) (U:bt<base) (K:base<=F)
 (I:∀r,kv.ownBlock=some r->r<F) (ht:HT w1 F w1.heap.size v g)
 (H:w3.ownsRow base 31 1 A (ps.length+1) (ps ++[v])) (E:(w1.alloc o).grownBy w3 kv.ownBlock) (C:A.ownBlock=kv.ownBlock\/A.ownBlock=some (w1.alloc o).heap.size) (u:Value) :
 joC (w3.setCell ⟨bt,5,none⟩ u) base A (ps ++[v]) (gs ++[g])/\jna bt base w1 (w3.setCell ⟨bt,5,none⟩ u)/\w1.heap.size<=w3.heap.size:=by
 have W:=E.size;rw[Ya]at W;obtain⟨pb,_,Y,Z⟩:=ht.ptr;have R:∀r,kv.ownBlock=some r->base<=r/\r<w1.heap.size:=hk.own.lt
 have O:∀b,b<w1.heap.size->b≠bt->kv.ownBlock≠some b->(w3.setCell ⟨bt,5,none⟩ u).heap[b]? =w1.heap[b]?:=fun b h1 h2 h3=>by
  rw[Kh _ _ _ _ h2,E.block b (by rw[Ya];omega) (fun h=>h3 h.symm),Kq _ _ _ (by omega)]
 refine⟨⟨?_,?_⟩,⟨⟨?_,?_,?_,?_,?_⟩,?_⟩,by omega⟩
 .rw[Yg];exact ownsRow_setCell_below H (by exact U) u
 .refine HTa.snoc ⟨F,w1.heap.size,by omega,by rw[size_setCell];omega,fun r hr=>?_,ht.keep fun b h1 h2=>?_⟩ (hk.ht.keep (by rw[size_setCell];omega) (fun b h1 h2 h3=>O b h2 (by omega) h3) ?_)
  .rcases C with h|h
   .rw[h]at hr;exact Or.inl (I r hr)
   .rw[h,Ya]at hr;simp at hr;omega
  .exact O b h2 (by omega) (fun h=>by have:=I b h;omega)
  .rcases C with h|h
   .exact Or.inl h
   .exact Or.inr ⟨_,h,by rw[Ya];omega⟩
 .exact E.os
 .exact E.tape
 .exact E.output
 .rw[size_setCell];omega
 .intro b h1;exact O b (by omega) (by omega) (fun h=>by have:=R b h;omega)
 .intro b h1 h2;exact O b (by omega) h2 (fun h=>by have:=R b h;omega)
theorem joC.sole (hk:joC w base kv ps gs) (h:jnm bt w w') (E:bt<base):joC w' base kv ps gs:=by
 refine⟨⟨hk.own.1,?_⟩,hk.ht.keep (by rw[h.2.1];exact jN) (fun b C _ _=>h.2.2 b (by omega)) (.inl rfl)⟩
 rcases hk.own.2 with K|⟨g,cap,A,C,I,H,F⟩
 .exact .inl K
 .exact .inr ⟨g,cap,A,C,I,by rw[h.2.2 g (by omega)];exact H,F⟩
theorem jty {form C:ByteArray}{pos num:Int}(hk:joC w base kv ps gs) (E:bt<base) (F:B<=bt)
 (A:w.heap[bt]? =some (.cells #[.string form,.int .i64 pos,.int .i64 num,.string C,.slice none 0 0,kv] 117 (0,0))) :
 HT w B w.heap.size (.pointer (some ⟨bt,0,none⟩)) (.nd form pos num C [] gs):=
 .nd F (lt_of_block A) A (Or.inl ⟨rfl,_,_,rfl⟩) ((jsh hk.own).wide (by omega) jN) (hk.ht.all |> fun h=>HTs.wide h (by omega) jN)
theorem jEn (L:List Tok):∀(m i f:Nat),f<i->i+m<=L.length+1->∀q ∈ opN L m i f,q.1<q.2/\q.2<=L.length:=by
 intro m
 induction m with
 |zero=>intro i f _ _ q A;simp[opN]at A
 |succ m ih=>
  intro i f C E q A;rw[opN]at A
  split at A
  .rcases Kk.1 A with h|h
   .subst h;exact⟨C,by show i<=_;omega⟩
   .exact ih (i+1) i (by omega) (by omega) q h
  .exact ih (i+1) f (by omega) (by omega) q A
theorem jyr (L:List Tok):∀q ∈ opL L,q.1<q.2/\q.2<=L.length:=jEn L L.length 1 0 (by omega) (by omega)
theorem jyo (L:List Tok):∀(m i f:Nat),(opN L m i f).length<=m:=by
 intro m
 induction m with
 |zero=>intro i f;simp[opN]
 |succ m ih=>
  intro i f;rw[opN]
  split
  .simp only[Yk];have:=ih (i+1) i;omega
  .have:=ih (i+1) f;omega
end Go.Proofs.YtlpmpelnhdoboaaGreatDoor
