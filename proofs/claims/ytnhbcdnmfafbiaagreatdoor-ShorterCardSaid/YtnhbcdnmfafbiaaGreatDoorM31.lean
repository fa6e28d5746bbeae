import Derived.Test.YtnhbcdnmfafbiaaGreatDoorM18
set_option linter.unusedVariables false
set_option linter.unusedSimpArgs false
set_option maxHeartbeats 20000000
set_option maxRecDepth 100000
namespace Go.Proofs.YtnhbcdnmfafbiaaGreatDoor
namespace V
open Go.Proofs
structure Nu where
 (k w n:Int)
 (f:S7)
def fNu:Pz (List C):=⟨Nu,fun x=>I x.k :: .ui ::I x.w ::I x.n :: .uk :: .uk ::fS.f x.f,fun l=>match l with
 | .i .i64 k :: .ui :: .i .i64 w :: .i .i64 n :: .uk :: .uk ::f=>match fS.un f with
   |some f=>some ⟨k,w,n,f⟩
   |none=>none
 |_=>none,fun b x e=>by
  split at e
  .split at e
   .rename_i h;cases e;rw[fS.ok _ _ h];rfl
   .cases e
  .cases e⟩
def jP2 (xs:List Arg):Option Ct:=match xs with
 |[.rv [.r true 13 ns] false,.pl (.c (.i .i64 n))]=>some (mkc (rS fNu) b0 (fun _ _=>True) (Ns ns))
 |_=>none
theorem jXY (xs:List Arg) (k:Ct) (h:jP2 xs=some k) (hp:k.pr):Tot T k 46 xs:=by
 unfold jP2 at h
 split at h
 .rename_i ns n
  cases h;have hp:Ns ns:=hp;obtain⟨⟨x,_⟩,B,h2⟩:=jSs hp n;refine⟨(⟨x.k,x.w,x.n,x.f⟩,()),trivial,?_⟩;have:=Does.lend (l:=[.r true 13 ns]) (ns:=[n]) h2 (fun c hc=>by rw[List.mem_singleton.1 hc];exact hp.r.plx fun _=>rfl);exact this
 .cases h
def ctG:Cts:=ctp 46 jP2 <|ctp 47 (kS2 fun _ n=>cBn n) <|ctp 106 (kS2 fun _ n=>cSn n) <|ctp 105 jOe <|ctp 107 (kA (aC (aG fS) <|aC (aR 1) aN) fun a=>cS0 (Nr a.2.1)) ct0
theorem jZd:Good T ctG:=by
 unfold ctG;refine jKu (jKu (jKu (jKu (Good.add jJV ?_) jTa) (jOd fun s n hp=>jRm s hp)) (jOd fun s n hp=>jTj s hp)) jXY;rintro a h;exact jRl _ _ h.r (Nat.le_trans h.n (by omega))
structure jJ5 (w:Wa) (x:N) (i:Int) (w':Wa):Prop where
 i:i=w.ns.length
 e:∃f,w'={w with ns:=w.ns ++[fN.f {x with f:=f}]}
structure AdI (w:Wa) (x:N) (l:List (List C)) (w':Wa) (x':N) (l':List (List C)) (c i:Int):Prop where
 q1:w'=w
 q2:∃f,x'={x with f:=f}
 q3:l'=l
 q4:c=l.length
 q5:Ix l.length i
theorem jJ5.of {w:Wa}{x:N}(h:Ns w.ns) (f:S7):jJ5 w x (wr (((w.ns ++[fN.f {x with f:=f}]).length:Int)-1)) {w with ns:=w.ns ++[fN.f {x with f:=f}]}:=by
 have:=h.n;refine⟨?_,f,rfl⟩;rw[List.length_append];unfold wr;rw[IntKind.wrap_i64];simp only[List.length_singleton];omega
def adT (a b c:Nat):Rl Av:=.cons 0 (tA 0) <| .cons 3 (tA 3) <| .cons a (tR 1) <| .cons b tI <| .cons c tI .nil
def adRt:Rl Rt:=.cons 0 (rX 0 fWa) <| .cons 3 (rX 1 fN) .nil
def adL (w:Wa) (x:N) (l:List (List C)) (a b c:Nat):Lp:=.iv (adT a b c) adRt (fun q=>AdI w x l q.2.1 q.2.2.1 q.1.2.2.1 q.1.2.2.2.1 q.1.2.2.2.2.1) fun q=>ixM l.length q.1.2.2.2.2.1
def adH (w:Wa) (x:N):Hy:=⟨hW false,[],[],[(2,adL w x x.s 10 11 12),(8,adL w x x.b 32 33 34)]⟩
theorem jUl {w:Wa}{x:N}(h:Ns w.ns) (hx:jKd x):Tot T (mkc rI bWa (fun i w'=>jJ5 w x i w') True) 56 [pWa w,.pl (.ag (fN.f x))]:=vF (adH w x) jZd Tryz.func56 (AdI w x x.s w x x.s ↑x.s.length 0/\∀(a:(Unit × Unit × List (List C) × Int × Int × Unit) × Wa × N × Unit),AdI w x x.s a.2.1 a.2.2.1 a.1.2.2.1 a.1.2.2.2.1 a.1.2.2.2.2.1->br (decide (a.1.2.2.2.2.1<a.1.2.2.2.1)) (0<=a.1.2.2.2.2.1/\(∃(y:Int),a.1.2.2.1[Int.toNat a.1.2.2.2.2.1]? =some [I y])/\∀(x_1:Int),a.1.2.2.1[Int.toNat a.1.2.2.2.2.1]? =some [I x_1]->Ns a.2.1.ns/\∀(x_2:Nu × Unit),True->True/\∀(x_3:S7 × Unit),True->AdI w x x.s a.2.1 {k:=a.2.2.1.k,w:=a.2.2.1.w,n:=a.2.2.1.n,b:=a.2.2.1.b,s:=a.2.2.1.s,f:=x_3.1} a.1.2.2.1 a.1.2.2.2.1 (wr (a.1.2.2.2.2.1+1))/\ixM x.s.length (wr (a.1.2.2.2.2.1+1))<ixM x.s.length a.1.2.2.2.2.1) (br (decide (a.2.2.1.k=5)) (AdI w x x.b a.2.1 a.2.2.1 a.2.2.1.b ↑a.2.2.1.b.length 0/\∀(a:(Unit × Unit × List (List C) × Int × Int × Unit) × Wa × N × Unit),AdI w x x.b a.2.1 a.2.2.1 a.1.2.2.1 a.1.2.2.2.1 a.1.2.2.2.2.1->br (decide (a.1.2.2.2.2.1<a.1.2.2.2.1)) (0<=a.1.2.2.2.2.1/\(∃(y:Int),a.1.2.2.1[Int.toNat a.1.2.2.2.2.1]? =some [I y])/\∀(x_1:Int),a.1.2.2.1[Int.toNat a.1.2.2.2.2.1]? =some [I x_1]->inI x_1/\∀(x_2:S7 × Unit),True->AdI w x x.b a.2.1 {k:=a.2.2.1.k,w:=a.2.2.1.w,n:=a.2.2.1.n,b:=a.2.2.1.b,s:=a.2.2.1.s,f:=x_2.1} a.1.2.2.1 a.1.2.2.2.1 (wr (a.1.2.2.2.2.1+1))/\ixM x.b.length (wr (a.1.2.2.2.2.1+1))<ixM x.b.length a.1.2.2.2.2.1) (a.2.1.ns.length+1<=4000000000/\jJ5 w x (wr (↑(a.2.1.ns ++(List.replicate 1 (List.replicate 1 (iz IntKind.i64) ++List.replicate 1 .ui ++List.replicate 2 (iz IntKind.i64) ++List.replicate 1 (rf 1) ++List.replicate 1 (ro 1) ++List.replicate 7 (iz IntKind.u64))).set 0 [I a.2.2.1.k,.ui,I a.2.2.1.w,I a.2.2.1.n,.r false 1 a.2.2.1.b,.r false 1 a.2.2.1.s,U a.2.2.1.f.a,U a.2.2.1.f.b,U a.2.2.1.f.c,U a.2.2.1.f.d,U a.2.2.1.f.e,U a.2.2.1.f.f,U a.2.2.1.f.g]).length-1)) {ps:=a.2.1.ps,ns:=a.2.1.ns ++(List.replicate 1 (List.replicate 1 (iz IntKind.i64) ++List.replicate 1 .ui ++List.replicate 2 (iz IntKind.i64) ++List.replicate 1 (rf 1) ++List.replicate 1 (ro 1) ++List.replicate 7 (iz IntKind.u64))).set 0 [I a.2.2.1.k,.ui,I a.2.2.1.w,I a.2.2.1.n,.r false 1 a.2.2.1.b,.r false 1 a.2.2.1.s,U a.2.2.1.f.a,U a.2.2.1.f.b,U a.2.2.1.f.c,U a.2.2.1.f.d,U a.2.2.1.f.e,U a.2.2.1.f.f,U a.2.2.1.f.g],sg:=a.2.1.sg,nx:=a.2.1.nx})) (Nr a.2.2.1.b/\∀(x_1:S7 × Unit),True->a.2.1.ns.length+1<=4000000000/\jJ5 w x (wr (↑(a.2.1.ns ++(List.replicate 1 (List.replicate 1 (iz IntKind.i64) ++List.replicate 1 .ui ++List.replicate 2 (iz IntKind.i64) ++List.replicate 1 (rf 1) ++List.replicate 1 (ro 1) ++List.replicate 7 (iz IntKind.u64))).set 0 [I a.2.2.1.k,.ui,I a.2.2.1.w,I a.2.2.1.n,.r false 1 a.2.2.1.b,.r false 1 a.2.2.1.s,U x_1.1.a,U x_1.1.b,U x_1.1.c,U x_1.1.d,U x_1.1.e,U x_1.1.f,U x_1.1.g]).length-1)) {ps:=a.2.1.ps,ns:=a.2.1.ns ++(List.replicate 1 (List.replicate 1 (iz IntKind.i64) ++List.replicate 1 .ui ++List.replicate 2 (iz IntKind.i64) ++List.replicate 1 (rf 1) ++List.replicate 1 (ro 1) ++List.replicate 7 (iz IntKind.u64))).set 0 [I a.2.2.1.k,.ui,I a.2.2.1.w,I a.2.2.1.n,.r false 1 a.2.2.1.b,.r false 1 a.2.2.1.s,U x_1.1.a,U x_1.1.b,U x_1.1.c,U x_1.1.d,U x_1.1.e,U x_1.1.f,U x_1.1.g],sg:=a.2.1.sg,nx:=a.2.1.nx}))) (by kernel_rfl) (by
 have wl:=h.n;have sn:=hx.s.n;have B:=hx.b.n;refine⟨⟨rfl,⟨_,rfl⟩,rfl,rfl,⟨by omega,by omega⟩⟩,fun⟨⟨_,_,l,c,i,_⟩,w',x',_⟩ ⟨q1,q2,q3,q4,q5⟩=>?_⟩
 dsimp only at q1 q2 q3 q4 q5 ⊢
 obtain⟨f,rfl⟩:=q2;subst q1 q3 q4;refine⟨fun hb=>⟨q5.lo,hx.s.r.at (q5.lt hb),fun y hy=>⟨h,fun _ _=>⟨trivial,fun g _=>⟨⟨rfl,⟨_,rfl⟩,rfl,rfl,(q5.nx (by omega) hb).1⟩,(q5.nx (by omega) hb).2⟩⟩⟩⟩,fun _=>⟨fun _=>⟨⟨rfl,⟨_,rfl⟩,rfl,rfl,⟨by omega,by omega⟩⟩,fun⟨⟨_,_,l,c,i,_⟩,w',x',_⟩ ⟨q1,q2,q3,q4,q5⟩=>?_⟩,fun _=>⟨hx.b,fun g _=>⟨by omega,jJ5.of h g.1⟩⟩⟩⟩
 dsimp only at q1 q2 q3 q4 q5 ⊢
 obtain⟨f,rfl⟩:=q2;subst q1 q3 q4
 refine⟨fun hb=>⟨q5.lo,hx.b.r.at (q5.lt hb),fun y hy=>⟨hx.b.int hy,fun g _=>⟨⟨rfl,⟨_,rfl⟩,rfl,rfl,(q5.nx (by omega) hb).1⟩,(q5.nx (by omega) hb).2⟩⟩⟩,fun _=>⟨by omega,jJ5.of h f⟩⟩)
end V
end Go.Proofs.YtnhbcdnmfafbiaaGreatDoor
set_option maxRecDepth 100000
namespace Go.Proofs.YtnhbcdnmfafbiaaGreatDoor
namespace V
open Go.Proofs
structure jLP (x:PtS):Prop where
 m:Rw fSt Tt x.m
 l:x.m.length<=1000000
 s:Nr x.s
 i:inI x.n
structure Ps (l:List (List C)):Prop where
 r:Rw fPt jLP l
 n:l.length<=1000000
theorem jTC {x y:PtS}(e:fPt.f x=fPt.f y):x=y:=by
 obtain⟨k,w,n,b,s⟩:=x;obtain⟨k',w',B,b',E⟩:=y;simp only[fPt,I,List.cons.injEq,C.i.injEq,C.r.injEq,true_and,and_true]at e;obtain⟨rfl,rfl,rfl,rfl,rfl⟩:=e;rfl
theorem Ps.at {l:List (List C)}(h:Ps l) {j:Nat}{x:PtS}(B:l[j]? =some (fPt.f x)):jLP x:=by
 obtain⟨y,e,hy⟩:=h.r.of B;rw[jTC e];exact hy
def pt0:PtS:=⟨0,0,0,[],[]⟩
noncomputable def jJI (ps:List (List C)) (n:Int):PtS:=open Classical in if h:0<=n/\∃x:PtS,ps[n.toNat]? =some (fPt.f x) then h.2.choose else pt0
theorem jWz {ps:List (List C)}{n:Int}{x:PtS}(h0:0<=n) (h:ps[n.toNat]? =some (fPt.f x)):jJI ps n=x:=by
 have B:0<=n/\∃x:PtS,ps[n.toNat]? =some (fPt.f x):=⟨h0,x,h⟩
 unfold jJI;rw[dif_pos B];exact jTC (Option.some.inj (B.2.choose_spec.symm.trans h))
theorem jM0 {ps:List (List C)}{n:Int}(h:n<0\/n>=ps.length):jJI ps n=pt0:=by
 unfold jJI;rw[dif_neg];rintro ⟨h0,x,hx⟩;have:=(List.getElem?_eq_some_iff.1 hx).1;omega
noncomputable def jJO (ps:List (List C)) (n i:Int):Int:=if 0<=i/\i<(jJI ps n).s.length/\jLs (jJI ps n).s i.toNat<n then jLs (jJI ps n).s i.toNat else -1
structure PtX (ps:List (List C)) (n:Int) (x:PtS):Prop where
 e:jJI ps n=x
 ok:jLP x
structure PkX (ps:List (List C)) (n i k:Int):Prop where
 e:jJO ps n i=k
 i:inI k
def hP:Hy:=⟨hW false,[],[],[]⟩
def cP (ps:List (List C)) (n:Int) (p:Prop):Ct:=mkc (rS fPt) b0 (fun x _=>PtX ps n x) p
def aPs (ps:List (List C)):Arg:=.pl (.ag [.r false 6 ps])
theorem jSe {ps:List (List C)}(h:Ps ps) (n:Int):Tot T (cP ps n True) 40 [aPs ps,pI n]:=vF hP jJV Tryz.func40 (br (decide (n<0)) (true=true/\PtX ps n {k:=0,w:=0,n:=0,m:=[],s:=[]}) (br (decide (n>=↑ps.length)) (PtX ps n {k:=0,w:=0,n:=0,m:=[],s:=[]}) (0<=n/\(∃(y:PtS),ps[n.toNat]? =some (fPt.f y))/\∀(x:PtS),ps[n.toNat]? =some (fPt.f x)->PtX ps n x))) (by kernel_rfl) (by
 have z:n<0\/n>=ps.length->PtX ps n pt0:=fun h=>⟨jM0 h,Rw.nil,by simp[pt0],Nr.nil,by simp[pt0],by simp[pt0]⟩
 refine⟨fun B=>⟨rfl,z (.inl (dt B))⟩,fun B=>⟨fun h2=>z (.inr (dt h2)),fun h2=>?_⟩⟩;have B:=df B;have h2:=df h2
 exact⟨by omega,h.r.ati n (by omega) (by omega),fun x hx=>⟨jWz (by omega) hx,h.at hx⟩⟩)
def kP2 (c:List (List C)->Int->Ct) (xs:List Arg):Option Ct:=match xs with
 |[.pl (.ag [.r false 6 ps]),.pl (.c (.i .i64 n))]=>some (c ps n)
 |_=>none
theorem jS9 {c:List (List C)->Int->Ct}{f:Nat}(h:∀ps n,(c ps n).pr->Tot T (c ps n) f [aPs ps,pI n]) (xs:List Arg) (k:Ct) (hk:kP2 c xs=some k) (hp:k.pr):Tot T k f xs:=by
 unfold kP2 at hk
 split at hk
 .cases hk;exact h _ _ hp
 .cases hk
def ctP:Cts:=ctp 40 (kP2 fun ps n=>cP ps n (Ps ps)) ct0
theorem jOs:Good T ctP:=jKu jJV (jS9 fun ps n hp=>jSe hp n)
def cPk (ps:List (List C)) (n i:Int) (p:Prop):Ct:=mkc rI b0 (fun k _=>PkX ps n i k) p
theorem jPl {ps:List (List C)}(h:Ps ps) (n i:Int):Tot T (cPk ps n i True) 54 [aPs ps,pI n,pI i]:=vF hP jOs Tryz.func54 (Ps ps/\∀(x:PtS × Unit),PtX ps n x.1->br (decide (i<0)) (true=true/\PkX ps n i ((-1))) (br (decide (i>=↑x.1.s.length)) (true=true/\PkX ps n i ((-1))) (0<=i/\(∃(y:Int),x.1.s[i.toNat]? =some [I y])/\∀(x_1:Int),x.1.s[i.toNat]? =some [I x_1]->br (decide (x_1>=n)) (PkX ps n i ((-1))) (0<=i/\(∃(y:Int),x.1.s[i.toNat]? =some [I y])/\∀(x_2:Int),x.1.s[i.toNat]? =some [I x_2]->PkX ps n i x_2)))) (by kernel_rfl) (by
 refine⟨h,fun⟨x,_⟩ ⟨e,hx⟩=>?_⟩
 dsimp only at e hx ⊢
 have z:¬(0<=i/\i<x.s.length/\jLs x.s i.toNat<n)->PkX ps n i (-1):=fun h=>⟨by unfold jJO;rw[e,if_neg h],by omega,by omega⟩
 refine⟨fun B=>⟨rfl,z (by have:=dt B;omega)⟩,fun B=>⟨fun h2=>⟨rfl,z (by have:=dt h2;omega)⟩,fun h2=>?_⟩⟩;have B:=df B;have h2:=df h2;have b:=hx.s.ati i (by omega) (by omega);refine⟨by omega,b,fun a ha=>⟨fun E=>z (by have:=dt E;rw[jL3 ha];omega),fun E=>⟨by omega,b,fun c hc=>⟨?_,hx.s.int hc⟩⟩⟩⟩;have E:=df E;have:=jL3 ha;have:=jL3 hc;unfold jJO;rw[e,if_pos ⟨by omega,by omega,by omega⟩]
 omega)
theorem jSc (ps:List (List C)):Tot T (mkc rI b0 (fun k _=>k=wr (ps.length-1)) True) 25 [aPs ps]:=vF hP jOs Tryz.func25 (wr (↑ps.length-1)=wr (↑ps.length-1)) (by kernel_rfl) rfl
end V
end Go.Proofs.YtnhbcdnmfafbiaaGreatDoor
