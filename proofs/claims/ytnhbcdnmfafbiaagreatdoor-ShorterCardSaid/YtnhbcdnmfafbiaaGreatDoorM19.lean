import Derived.Test.YtnhbcdnmfafbiaaGreatDoorM01
import Derived.Test.YtnhbcdnmfafbiaaGreatDoorM14
import Derived.Test.YtnhbcdnmfafbiaaGreatDoorM18
set_option linter.unusedVariables false
set_option linter.unusedSimpArgs false
set_option maxHeartbeats 20000000
set_option maxRecDepth 100000
namespace Go.Proofs.YtnhbcdnmfafbiaaGreatDoor
namespace V
open Go.Proofs
def txL:List (List UInt8):=[[],[],[],[108,101,116],[114,101,99],[105,110],[105,102],[116,104,101,110],[101,108,115,101],[102,117,110],[110,111,116],[116,114,117,101],[102,97,108,115,101],[114,101,97,100],[112,114,105,110,116],[108,101,110],[97,114,114,97,121],[112,117,116],[46,40],[60,62],[60,61],[62,61],[45,62],[40],[41],[44],[59],[61],[60],[62],[43],[45],[42],[47],[37]]
def fdL:List (List UInt8):=[[],[114,107,48,48],[114,114,48,48],[114,115,48,48],[114,115,48,48],[114,115,48,48],[48,115,48,48],[114,114,114,48],[114,114,114,48],[114,114,114,48],[114,114,114,42],[114,114,114,42],[114,114,114,48],[114,114,114,48],[114,114,114,48],[114,114,48,48],[114,114,48,48],[48,108,48,48],[114,108,48,48],[114,42,48,48],[114,42,102,48],[114,42,114,48],[114,114,42,48],[114,114,114,42],[114,114,114,42],[114,114,114,42],[114,114,48,48],[114,48,48,42],[114,48,48,42],[48,102,48,48],[48,97,48,48],[48,102,48,48],[48,97,48,48],[48,48,48,48]]
def gsC (l:List (List UInt8)):List C:=l.map fun x=>.s ⟨⟨x⟩⟩
def pwC:List C:=[.i .u64 1,.i .u64 10,.i .u64 100,.i .u64 1000,.i .u64 10000,.i .u64 100000,.i .u64 1000000,.i .u64 10000000,.i .u64 100000000,.i .u64 1000000000,.i .u64 10000000000,.i .u64 100000000000,.i .u64 1000000000000,.i .u64 10000000000000,.i .u64 100000000000000,.i .u64 1000000000000000,.i .u64 10000000000000000,.i .u64 100000000000000000,.i .u64 1000000000000000000,.i .u64 10000000000000000000]
def glT (k:Nat):Option (List C):=cond (Nat.beq k 1000000) (some (gsC txL)) (cond (Nat.beq k 1000001) (some (gsC fdL)) (cond (Nat.beq k 1000002) (some pwC) none))
theorem glT0 (k:Nat) (h:k<1000000):glT k=none:=by
 unfold glT;have B:Nat.beq k 1000000=false:=Bool.eq_false_iff.2 fun e=>by have:=Nat.eq_of_beq_eq_true e;omega
 have h2:Nat.beq k 1000001=false:=Bool.eq_false_iff.2 fun e=>by have:=Nat.eq_of_beq_eq_true e;omega
 have E:Nat.beq k 1000002=false:=Bool.eq_false_iff.2 fun e=>by have:=Nat.eq_of_beq_eq_true e;omega
 rw[B,h2,E];rfl
noncomputable def T1:Tb:=T.var glT glT0
theorem Jae:Good T1 ct0:=fun _ _ _ h=>by cases h
theorem Jbr {f:Nat}{c:List Arg->Option Ct}{ct:Cts}(h:Good T1 ct) (B:∀xs k,c xs=some k->k.pr->Tot T1 k f xs):Good T1 (ctp f c ct):=fun g xs k e hp=>by
 unfold ctp at e
 cases hb :Nat.beq f g with
 |true=>
  rw[hb]at e;rw[<-Nat.eq_of_beq_eq_true hb];exact B xs k e hp
 |false=>
  rw[hb]at e;exact h g xs k e hp
theorem Good.ad1 {ct:Cts}(h:Good T1 ct) {f:Nat}{A:Pz (List Arg)}{c:A.α->Ct}(B:∀a,(c a).pr->Tot T1 (c a) f (A.f a)):Good T1 (ctp f (kA A c) ct):=Jbr h fun xs k hk hp=>by
 unfold kA at hk
 split at hk
 .rename_i a ha
  cases hk;rw[A.ok _ _ ha];exact B a hp
 .cases hk
structure WdS where
 (k a n:Int)
 (s:ByteArray)
def fWd:Pz (List C):=⟨WdS,fun x=>[I x.k,I x.a,I x.n,.s x.s],fun l=>match l with
 |[.i .i64 k,.i .i64 a,.i .i64 n,.s s]=>some ⟨k,a,n,s⟩
 |_=>none,fun b x e=>by split at e <;> cases e;rfl⟩
structure PqS where
 (k a w n:Int)
 (m s:List (List C))
def fPq:Pz (List C):=⟨PqS,fun x=>[I x.k,I x.a,I x.w,I x.n,.r false 1 x.m,.r false 1 x.s],fun l=>match l with
 |[.i .i64 k,.i .i64 a,.i .i64 w,.i .i64 n,.r false 1 m,.r false 1 s]=>some ⟨k,a,w,n,m,s⟩
 |_=>none,fun b x e=>by split at e <;> cases e;rfl⟩
structure PS where
 (L:List (List C))
 (nx op ns:Int)
 (ps:List (List C))
 (er pl:Int)
def fPS:Pz (List C):=⟨PS,fun s=>[.r false 4 s.L,I s.nx,I s.op,I s.ns,.r true 6 s.ps,I s.er,I s.pl],fun l=>match l with
 |[.r false 4 L,.i .i64 nx,.i .i64 op,.i .i64 ns,.r true 6 ps,.i .i64 er,.i .i64 pl]=>some ⟨L,nx,op,ns,ps,er,pl⟩
 |_=>none,fun b x e=>by split at e <;> cases e;rfl⟩
def pPS (s:PS):Arg:=.bp (fPS.f s)
def qPS (s:PS):Arg:=.br (fPS.f s)
def bPS:Pz (List (List C)):=bS fPS
def wdN:WdS:=⟨0,0,0,ByteArray.empty⟩
def wdL (L:List (List C)) (i:Int):WdS:=if 0<=i/\i<L.length then(match L[i.toNat]? with
 |some e=>(match fWd.un e with
  |some x=>x
  |none=>wdN)
 |none=>wdN) else wdN
def wdA (s:PS):WdS:=wdL s.L s.nx
structure JaS (x:WdS):Prop where
 k:0<=x.k/\x.k<=34
 a:0<=x.a
 n:0<=x.n/\x.n<=4611686018427387903
structure Jao (x:PqS):Prop where
 k:0<=x.k/\x.k<=34
 n:0<=x.n/\x.n<=4611686018427387903
 m:Rw fSt Tt x.m
 ml:x.m.length<=6
 s:Ri x.s
 sl:x.s.length<=6
structure PsI (s:PS):Prop where
 l:Rw fWd JaS s.L
 ln:s.L.length<=1000
 nx:0<=s.nx/\s.nx<=s.L.length+1
 op:0<=s.op/\s.op<=s.ns+1
 oz:s.er=0->s.op<=s.ns
 ns:s.ns<=100
 ps:Rw fPq Jao s.ps
 pn:s.ps.length+2*(s.L.length-s.nx).toNat<=100000
 ez:s.er≠0->s.L.length<=s.nx
 pl:s.pl=0\/∃x,fWd.f x ∈ s.L/\s.pl=x.a
def hPS:Hx:=⟨fun z=>cond (Nat.beq z 4) (eS fWd) (cond (Nat.beq z 6) (eS fPq) eI),false,fun _=>none,false,false⟩
def hPy:Hy:=⟨hPS,[],[],[]⟩
def cWo (s:PS) (p:Prop):Ct:=mkc (rS fWd) b0 (fun w _=>w=wdA s) p
structure WdP (s:PS):Prop where
 l:Rw fWd JaS s.L
 ln:s.L.length<=1000
 nx:0<=s.nx/\s.nx<=2000
theorem PsI.w {s:PS}(h:PsI s):WdP s:=⟨h.l,h.ln,by have:=h.nx;have:=h.ln;omega⟩
theorem Jb5 {L:List (List C)}{i:Int}(h:Rw fWd JaS L) (h0:0<=i) (B:i<L.length):L[i.toNat]? =some (fWd.f (wdL L i))/\JaS (wdL L i):=by
 have hi:i.toNat<L.length:=by omega
 obtain⟨x,hx,hp⟩:=h _ (List.getElem_mem hi);have e:L[i.toNat]? =some (fWd.f x):=by rw[List.getElem?_eq_getElem hi,hx]
 have:wdL L i=x:=by
  unfold wdL;rw[if_pos ⟨h0,B⟩,e];rfl
 rw[this];exact⟨e,hp⟩
theorem Jc1 {L:List (List C)}{i:Int}(B:(L.length:Int)<=i):wdL L i=wdN:=by unfold wdL;rw[if_neg (by omega)]
theorem Jcw {x y:WdS}(e:fWd.f x=fWd.f y):x=y:=by
 cases x;cases y;simp only[fWd,I,List.cons.injEq,C.i.injEq,C.s.injEq,true_and,and_true]at e;obtain⟨rfl,rfl,rfl,rfl⟩:=e;rfl
theorem Je0 {L:List (List C)}{i:Int}{x:WdS}(h:Rw fWd JaS L) (h0:0<=i) (B:i<L.length) (e:L[i.toNat]? =some (fWd.f x)):x=wdL L i:=Jcw (Option.some.inj (e.symm.trans (Jb5 h h0 B).1))
theorem JfN {s:PS}(h:WdP s):Tot T1 (cWo s True) 126 [qPS s]:=vF hPy Jae Tryz.func126 (br (decide (s.nx>=↑s.L.length)) ({k:=0,a:=0,n:=0,s:={data:=#[]}}=wdA s) (0<=s.nx/\(∃(y:WdS),s.L[s.nx.toNat]? =some (fWd.f y))/\∀(x:WdS),s.L[s.nx.toNat]? =some (fWd.f x)->x=wdA s)) (by kernel_rfl) (by
 obtain⟨G,h2,E⟩:=h;refine⟨fun B=>(Jc1 (dt B)).symm,fun B=>?_⟩;have B:=df B
 exact⟨E.1,⟨_,(Jb5 G E.1 (by omega)).1⟩,fun x e=>Je0 G E.1 (by omega) e⟩)
def JcK:Cts:=ctp 126 (kA (aC (aQ fPS) aN) fun a=>cWo a.1 (WdP a.1)) ct0
theorem JbU:Good T1 JcK:=by
 unfold JcK;refine Good.ad1 Jae ?_;rintro a h;exact JfN h
theorem Jdp {s:PS}(h:WdP s):Tot T1 (mkc rI b0 (fun k _=>k=(wdA s).k) True) 75 [qPS s]:=vF hPy JbU Tryz.func75 (WdP s/\∀(x:WdS × Unit),x.1=wdA s->x.1.k=(wdA s).k) (by kernel_rfl) ⟨h,fun x e=>by rw[e]⟩
def avS (s:PS):PS:={s with nx:=s.nx+1}
structure TkR (s:PS) (w:WdS) (s':PS):Prop where
 w:w=wdA s
 s:s'=avS s
theorem JaN {n:Int}(h:0<=n/\n<=200000):wr (n+1)=n+1:=by unfold wr;rw[IntKind.wrap_i64];omega
theorem wr_m {n:Int}(h: -200000<=n/\n<=200000):wr (n-1)=n-1:=by unfold wr;rw[IntKind.wrap_i64];omega
theorem JfT {s:PS}(h:WdP s):Tot T1 (mkc (rS fWd) bPS (fun w s'=>TkR s w s') True) 81 [pPS s]:=vF hPy JbU Tryz.func81 (WdP s/\∀(x:WdS × Unit),x.1=wdA s->TkR s x.1 {L:=s.L,nx:=wr (s.nx+1),op:=s.op,ns:=s.ns,ps:=s.ps,er:=s.er,pl:=s.pl}) (by kernel_rfl) ⟨h,fun x e=>⟨e,by unfold avS;have:=h.nx;rw[JaN (by omega)]⟩⟩
def flS (s:PS) (e:Int):PS:={s with er:=if s.er=0 then e else s.er,pl:=if s.er=0 then(wdA s).a else s.pl,nx:=s.L.length}
structure FlR (s:PS) (e:Int) (s':PS):Prop where
 s:s'=flS s e
theorem Jf3 {s:PS}(h:WdP s) (e:Int):Tot T1 (mkc r0 bPS (fun _ s'=>FlR s e s') True) 80 [pPS s,pI e]:=vN hPy JbU Tryz.func80 (br (decide (s.er=0)) (WdP {L:=s.L,nx:=s.nx,op:=s.op,ns:=s.ns,ps:=s.ps,er:=e,pl:=s.pl}/\∀(x:WdS × Unit),x.1=wdA {L:=s.L,nx:=s.nx,op:=s.op,ns:=s.ns,ps:=s.ps,er:=e,pl:=s.pl}->FlR s e {L:=s.L,nx:=↑s.L.length,op:=s.op,ns:=s.ns,ps:=s.ps,er:=e,pl:=x.1.a}) (FlR s e {L:=s.L,nx:=↑s.L.length,op:=s.op,ns:=s.ns,ps:=s.ps,er:=s.er,pl:=s.pl})) (by kernel_rfl) ⟨fun hb=>⟨⟨h.l,h.ln,h.nx⟩,fun x e=>⟨by unfold flS;rw[if_pos (dt hb),if_pos (dt hb),e];rfl⟩⟩,fun hb=>⟨by unfold flS;rw[if_neg (df hb),if_neg (df hb)]⟩⟩
def JcM:Cts:=ctp 75 (kA (aC (aQ fPS) aN) fun a=>mkc rI b0 (fun k _=>k=(wdA a.1).k) (WdP a.1)) <|ctp 81 (kA (aC (aP fPS) aN) fun a=>mkc (rS fWd) bPS (fun w s'=>TkR a.1 w s') (WdP a.1)) <|ctp 80 (kA (aC (aP fPS) <|aC aI aN) fun a=>mkc r0 bPS (fun _ s'=>FlR a.1 a.2.1 s') (WdP a.1)) JcK
theorem JcL:Good T1 JcM:=by
 unfold JcM;refine Good.ad1 (Good.ad1 (Good.ad1 JbU ?_) ?_) ?_
 .rintro a h;exact Jf3 h _
 .rintro a h;exact JfT h
 .rintro a h;exact Jdp h
def wnB (s:PS) (k:Int):PS:=if(wdA s).k=k then s else flS s 4
theorem Jd1 {s:PS}(h:WdP s) (e:Int):WdP (flS s e):=⟨h.l,h.ln,by have:=h.ln;unfold flS;dsimp only;omega⟩
theorem JfO {s:PS}(h:WdP s) (k:Int):Tot T1 (mkc (rS fWd) bPS (fun w s'=>TkR (wnB s k) w s') True) 39 [pPS s,pI k]:=vF hPy JcL Tryz.func39 (WdP s/\∀(x:Int × Unit),x.1=(wdA {L:=s.L,nx:=s.nx,op:=s.op,ns:=s.ns,ps:=s.ps,er:=s.er,pl:=s.pl}).k->br (decide (x.1≠k)) (WdP s/\∀(x:Unit × PS),FlR s 4 x.2->WdP x.2/\∀(x_1:WdS × PS),TkR x.2 x_1.1 x_1.2->TkR (wnB s k) x_1.1 x_1.2) (WdP s/\∀(x:WdS × PS),TkR s x.1 x.2->TkR (wnB s k) x.1 x.2)) (by kernel_rfl) (by
 refine⟨h,fun⟨x,_⟩ e=>?_⟩;have e:x=(wdA s).k:=e;subst e;refine⟨fun hb=>⟨h,fun⟨_,s1⟩ ⟨e1⟩=>?_⟩,fun hb=>⟨h,fun y hy=>?_⟩⟩
 .dsimp only at e1 ⊢
  subst e1;exact⟨Jd1 h _,fun y hy=>by unfold wnB;rw[if_neg (dt hb)];exact hy⟩
 .have hb:(wdA s).k=k:=Decidable.not_not.1 (df hb)
  unfold wnB;rw[if_pos hb];exact hy)
def bgB (s:PS):PS:=if s.op>=s.ns then flS s 5 else s
structure JaV (s:PS) (w:WdS) (s':PS):Prop where
 w:w=wdA (bgB s)
 s:s'=avS {bgB s with op:=s.op+1}
structure BgP (s:PS) (k:Int):Prop where
 w:WdP s
 k:(wdA s).k=k
 o:0<=s.op/\s.op<=1000
theorem Jf5 {s:PS}{k:Int}(h:BgP s k):Tot T1 (mkc (rS fWd) bPS (fun w s'=>JaV s w s') True) 168 [pPS s,pI k]:=vF hPy JcL Tryz.func168 (WdP s/\∀(x:Int × Unit),x.1=(wdA {L:=s.L,nx:=s.nx,op:=s.op,ns:=s.ns,ps:=s.ps,er:=s.er,pl:=s.pl}).k->br (decide (x.1≠k)) (WdP s/\∀(x:Unit × PS),FlR s 4 x.2->WdP {L:=x.2.L,nx:=x.2.nx,op:=wr (x.2.op+1),ns:=x.2.ns,ps:=x.2.ps,er:=x.2.er,pl:=x.2.pl}/\∀(x_1:WdS × PS),TkR {L:=x.2.L,nx:=x.2.nx,op:=wr (x.2.op+1),ns:=x.2.ns,ps:=x.2.ps,er:=x.2.er,pl:=x.2.pl} x_1.1 x_1.2->JaV s x_1.1 x_1.2) (br (decide (s.op>=s.ns)) (WdP s/\∀(x:Unit × PS),FlR s 5 x.2->WdP {L:=x.2.L,nx:=x.2.nx,op:=wr (x.2.op+1),ns:=x.2.ns,ps:=x.2.ps,er:=x.2.er,pl:=x.2.pl}/\∀(x_1:WdS × PS),TkR {L:=x.2.L,nx:=x.2.nx,op:=wr (x.2.op+1),ns:=x.2.ns,ps:=x.2.ps,er:=x.2.er,pl:=x.2.pl} x_1.1 x_1.2->JaV s x_1.1 x_1.2) (WdP {L:=s.L,nx:=s.nx,op:=wr (s.op+1),ns:=s.ns,ps:=s.ps,er:=s.er,pl:=s.pl}/\∀(x:WdS × PS),TkR {L:=s.L,nx:=s.nx,op:=wr (s.op+1),ns:=s.ns,ps:=s.ps,er:=s.er,pl:=s.pl} x.1 x.2->JaV s x.1 x.2))) (by kernel_rfl) (by
 obtain⟨h,hk,G⟩:=h;refine⟨h,fun⟨x,_⟩ e=>?_⟩;have e:x=(wdA s).k:=e;subst e;refine⟨fun hb=>absurd hk (dt hb),fun hb=>⟨fun hc=>⟨h,fun⟨_,s1⟩ ⟨e1⟩=>?_⟩,fun hc=>⟨⟨h.l,h.ln,h.nx⟩,fun⟨y,s2⟩ ⟨e2,e3⟩=>?_⟩⟩⟩
 .dsimp only at e1 ⊢
  subst e1;have E:=Jd1 h 5;refine⟨⟨E.l,E.ln,E.nx⟩,fun⟨y,s2⟩ ⟨e2,e3⟩=>?_⟩
  dsimp only at e2 e3 ⊢
  have B:bgB s=flS s 5:=if_pos (dt hc);refine⟨by rw[B];exact e2,?_⟩;rw[B,e3,show wr ((flS s 5).op+1)=s.op+1 from JaN (show 0<=s.op/\s.op<=200000 by omega)]
 .dsimp only at e2 e3 ⊢
  have B:bgB s=s:=if_neg (df hc);refine⟨by rw[B];exact e2,?_⟩
  rw[B,e3,JaN (by omega)])
def JcJ:Cts:=ctp 39 (kA (aC (aP fPS) <|aC aI aN) fun a=>mkc (rS fWd) bPS (fun w s'=>TkR (wnB a.1 a.2.1) w s') (WdP a.1)) JcM
theorem Jej:Good T1 JcJ:=by
 unfold JcJ;refine Good.ad1 JcL ?_;rintro a h;exact JfO h _
structure JaE (s s':PS):Prop where
 s:s'={avS (wnB s 24)with op:=s.op-1}
theorem Jf2 {s:PS}(h:WdP s) (E:0<=s.op/\s.op<=1000):Tot T1 (mkc r0 bPS (fun _ s'=>JaE s s') True) 169 [pPS s]:=vN hPy Jej Tryz.func169 (WdP s/\∀(x:WdS × PS),TkR (wnB s 24) x.1 x.2->JaE s {L:=x.2.L,nx:=x.2.nx,op:=wr (x.2.op-1),ns:=x.2.ns,ps:=x.2.ps,er:=x.2.er,pl:=x.2.pl}) (by kernel_rfl) (by
 refine⟨h,fun⟨y,s2⟩ ⟨e2,e3⟩=>⟨?_⟩⟩
 dsimp only at e3 ⊢
 have B:s2.op=s.op:=by rw[e3];unfold avS wnB;split <;> rfl
 rw[B,wr_m (by omega),e3])
structure AdQ (s:PS) (x:PqS) (i:Int) (s':PS):Prop where
 i:i=s.ps.length
 s:s'={s with ps:=s.ps ++[fPq.f x]}
theorem Jdq {s:PS}(h:s.ps.length<=200000) (x:PqS):Tot T1 (mkc rI bPS (fun i s'=>AdQ s x i s') True) 129 [pPS s,.pl (.ag (fPq.f x))]:=vF hPy Jae Tryz.func129 (s.ps.length+1<=4000000000/\AdQ s x (wr (↑(s.ps ++(List.replicate 1 [iz IntKind.i64,.ui,iz IntKind.i64,iz IntKind.i64,rf 1,rf 1]).set 0 [I x.k,I x.a,I x.w,I x.n,.r false 1 x.m,.r false 1 x.s]).length-1)) {L:=s.L,nx:=s.nx,op:=s.op,ns:=s.ns,ps:=s.ps ++(List.replicate 1 [iz IntKind.i64,.ui,iz IntKind.i64,iz IntKind.i64,rf 1,rf 1]).set 0 [I x.k,I x.a,I x.w,I x.n,.r false 1 x.m,.r false 1 x.s],er:=s.er,pl:=s.pl}) (by kernel_rfl) ⟨by omega,by
 refine⟨?_,rfl⟩;rw[List.length_append];unfold wr;rw[IntKind.wrap_i64];simp only[List.length_set,List.length_replicate]
 omega⟩
def ctPa:Cts:=ctp 129 (kA (aC (aP fPS) <|aC (aG fPq) aN) fun a=>mkc rI bPS (fun i s'=>AdQ a.1 a.2.1 i s') (a.1.ps.length<=200000)) ct0
theorem JhH:Good T1 ctPa:=by
 unfold ctPa;refine Good.ad1 Jae ?_;rintro a h;exact Jdq h _
def Jah (k l:Int) (w:WdS) (r:Int):PqS:=⟨k,w.a,w.k,0,[],[[I l],[I r]]⟩
theorem Jf4 {s:PS}(h:s.ps.length<=200000) (k l:Int) (w:WdS) (r:Int):Tot T1 (mkc rI bPS (fun i s'=>AdQ s (Jah k l w r) i s') True) 132 [pPS s,pI k,pI l,.pl (.ag (fWd.f w)),pI r]:=vF (⟨hPS,[19],[],[]⟩) JhH Tryz.func132 (s.ps.length<=200000/\∀(x:Int × PS),AdQ s {k:=k,a:=w.a,w:=w.k,n:=0,m:=[],s:=[[I l],[I r]]} x.1 x.2->AdQ s (Jah k l w r) x.1 x.2) (by kernel_rfl) ⟨h,fun x hx=>hx⟩
def opK (k:Int):Int:=if jnJ k then 17 else if jm6 k then 16 else if Jal k then 15 else 0
def ctPk:Cts:=ctp 75 (kA (aC (aQ fPS) aN) fun a=>mkc rI b0 (fun k _=>k=(wdA a.1).k) (WdP a.1)) ct0
theorem Jem:Good T1 ctPk:=by
 unfold ctPk;refine Good.ad1 Jae ?_;rintro a h;exact Jdp h
theorem JfX {s:PS}(h:WdP s):Tot T1 (mkc rI b0 (fun k _=>k=opK (wdA s).k) True) 171 [qPS s]:=vF hPy Jem Tryz.func171 (WdP s/\∀(x:Int × Unit),x.1=(wdA {L:=s.L,nx:=s.nx,op:=s.op,ns:=s.ns,ps:=s.ps,er:=s.er,pl:=s.pl}).k->br (decide (x.1=27)) (true=true/\17=opK (wdA s).k) (br (decide (x.1=19)) (true=true/\17=opK (wdA s).k) (br (decide (x.1=28)) (true=true/\17=opK (wdA s).k) (br (decide (x.1=20)) (true=true/\17=opK (wdA s).k) (br (decide (x.1=29)) (true=true/\17=opK (wdA s).k) (br (decide (x.1=21)) (17=opK (wdA s).k) (br (decide (x.1=30)) (true=true/\16=opK (wdA s).k) (br (decide (x.1=31)) (16=opK (wdA s).k) (br (decide (x.1=32)) (true=true/\15=opK (wdA s).k) (br (decide (x.1=33)) (true=true/\15=opK (wdA s).k) (br (decide (x.1=34)) (15=opK (wdA s).k) (0=opK (wdA s).k)))))))))))) (by kernel_rfl) (by
 refine⟨h,fun⟨x,_⟩ e=>?_⟩;have e:x=(wdA s).k:=e;subst e
 dsimp only
 generalize (wdA s).k=k;unfold opK jnJ jm6 Jal;have g:∀{j:Int}{b:Bool},decide (k=j)=b->(k == j)=b:=fun h=>h
 refine⟨fun h1=>⟨rfl,?_⟩,fun h1=>⟨fun h2=>⟨rfl,?_⟩,fun h2=>⟨fun h3=>⟨rfl,?_⟩,fun h3=>⟨fun h4=>⟨rfl,?_⟩,fun h4=>⟨fun h5=>⟨rfl,?_⟩,fun h5=>⟨fun h6=>?_,fun h6=>⟨fun h7=>⟨rfl,?_⟩,fun h7=>⟨fun h8=>?_,fun h8=>⟨fun h9=>⟨rfl,?_⟩,fun h9=>⟨fun h10=>⟨rfl,?_⟩,fun h10=>⟨fun h11=>?_,fun h11=>?_⟩⟩⟩⟩⟩⟩⟩⟩⟩⟩⟩ <;> simp only[g h1, *,Bool.or_true,Bool.true_or,Bool.or_false,Bool.false_eq_true,if_true,if_false])
theorem Jf6 {s:PS}(h:WdP s):Tot T1 (mkc rB b0 (fun k _=>k=jnc (wdA s).k) True) 243 [qPS s]:=vF hPy Jem Tryz.func243 (WdP s/\∀(x:Int × Unit),x.1=(wdA {L:=s.L,nx:=s.nx,op:=s.op,ns:=s.ns,ps:=s.ps,er:=s.er,pl:=s.pl}).k->br (decide (x.1=1)) (true=true/\true=jnc (wdA s).k) (br (decide (x.1=11)) (true=true/\true=jnc (wdA s).k) (br (decide (x.1=12)) (true=true/\true=jnc (wdA s).k) (br (decide (x.1=13)) (true=true/\true=jnc (wdA s).k) (br (decide (x.1=2)) (true=true/\true=jnc (wdA s).k) (br (decide (x.1=23)) (true=jnc (wdA s).k) (false=jnc (wdA s).k))))))) (by kernel_rfl) (by
 refine⟨h,fun⟨x,_⟩ e=>?_⟩;have e:x=(wdA s).k:=e;subst e
 dsimp only
 generalize (wdA s).k=k;unfold jnc
 refine⟨fun h1=>⟨rfl,?_⟩,fun h1=>⟨fun h2=>⟨rfl,?_⟩,fun h2=>⟨fun h3=>⟨rfl,?_⟩,fun h3=>⟨fun h4=>⟨rfl,?_⟩,fun h4=>⟨fun h5=>⟨rfl,?_⟩,fun h5=>⟨fun h6=>?_,fun h6=>?_⟩⟩⟩⟩⟩⟩ <;> simp_all)
theorem JfV {s:PS}(h:Rw fPq Jao s.ps) (n:Int):Tot T1 (mkc rI b0 (fun _ _=>True) True) 244 [qPS s,pI n]:=vF hPy Jae Tryz.func244 (br (decide (n<0)) (true=true/\True) (br (decide (n>=↑s.ps.length)) True (0<=n/\n.toNat<s.ps.length/\(∃(y:PqS),s.ps[n.toNat]? =some (fPq.f y))/\∀(x:PqS),s.ps[n.toNat]? =some (fPq.f x)->True))) (by kernel_rfl) ⟨fun _=>⟨rfl,trivial⟩,fun h0=>⟨fun _=>trivial,fun B=>by
 have h0:=df h0;have B:=df B;have hn:n.toNat<s.ps.length:=by omega
 exact⟨by omega,hn,h.at hn,fun _ _=>trivial⟩⟩⟩
def JcO:Cts:=ctp 171 (kA (aC (aQ fPS) aN) fun a=>mkc rI b0 (fun k _=>k=opK (wdA a.1).k) (WdP a.1)) <|ctp 243 (kA (aC (aQ fPS) aN) fun a=>mkc rB b0 (fun k _=>k=jnc (wdA a.1).k) (WdP a.1)) <|ctp 244 (kA (aC (aQ fPS) <|aC aI aN) fun a=>mkc rI b0 (fun _ _=>True) (Rw fPq Jao a.1.ps)) <|ctp 132 (kA (aC (aP fPS) <|aC aI <|aC aI <|aC (aG fWd) <|aC aI aN) fun a=>mkc rI bPS (fun i s'=>AdQ a.1 (Jah a.2.1 a.2.2.1 a.2.2.2.1 a.2.2.2.2.1) i s') (a.1.ps.length<=200000)) <|ctp 129 (kA (aC (aP fPS) <|aC (aG fPq) aN) fun a=>mkc rI bPS (fun i s'=>AdQ a.1 a.2.1 i s') (a.1.ps.length<=200000)) <|ctp 169 (kA (aC (aP fPS) aN) fun a=>mkc r0 bPS (fun _ s'=>JaE a.1 s') (WdP a.1/\0<=a.1.op/\a.1.op<=1000)) <|ctp 168 (kA (aC (aP fPS) <|aC aI aN) fun a=>mkc (rS fWd) bPS (fun w s'=>JaV a.1 w s') (BgP a.1 a.2.1)) JcJ
theorem JcN:Good T1 JcO:=by
 unfold JcO;refine Good.ad1 (Good.ad1 (Good.ad1 (Good.ad1 (Good.ad1 (Good.ad1 (Good.ad1 Jej ?_) ?_) ?_) ?_) ?_) ?_) ?_
 .rintro a h;exact Jf5 h
 .rintro a ⟨h,ho⟩;exact Jf2 h ho
 .rintro a h;exact Jdq h _
 .rintro a h;exact Jf4 h _ _ _ _
 .rintro a h;exact JfV h _
 .rintro a h;exact Jf6 h
 .rintro a h;exact JfX h
end V
end Go.Proofs.YtnhbcdnmfafbiaaGreatDoor
