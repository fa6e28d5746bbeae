import Derived.Test.YtlpmpelnhdoboaaGreatDoorS14
import Derived.Deep.LoopGhost
set_option linter.unusedVariables false
set_option linter.unusedSimpArgs false
set_option maxHeartbeats 20000000
namespace Go.Proofs.YtlpmpelnhdoboaaGreatDoor
open Go.RowKit Sl
def jm9 (t:Tok):ByteArray:=jpH t.k t.t
def jnI (L:List Tok):Nat->PF->List ByteArray->PF × List ByteArray
 |0,S,ns=>(S,ns)
 |f+1,S,ns=>if(jE L S.next).k=2 then jnI L f S.take (ns ++[jm9 (jE L S.next)]) else(S,ns)
def jrk:Value->Nat
 | .slice _ n _=>n
 |_=>0
variable {L:List Tok}{k:Nat}{S:PF}
theorem jA7 (B:L.length<=100000) (A:S.next<=900000):(S.want L k).next<=900001:=by
 unfold PF.want
 split
 .show S.next+1<=_;omega
 .show L.length+1<=_;omega
variable {w:World}{p n:Nat}
theorem app2 {B:World}{o1 F:Obj}{base:Nat}{e:TypeId}{v:Value}{xs:List Value}{X:Obj}(E:w.ownsRow base e 1 v n xs) (K:p<base) (A:base<=w.heap.size) (C:w.heap[p]? =some X) (H:((w.alloc o1).alloc F).grownBy B v.ownBlock) :
 B.heap[p]? =some X/\w.heap.size<=B.heap.size/\Below base w B:=by
 have O:Below base w ((w.alloc o1).alloc F):=(jB.alloc A _).alloc (by rw[Ya];omega) _;have hs:((w.alloc o1).alloc F).heap.size=w.heap.size+1+1:=by rw[Ya,Ya]
 have I:=O.grown H (by omega) (jh7 E);refine⟨jng C I K,?_,I⟩;have:=H.size;omega
theorem jna.less {B B':Nat}{w':World}(h:jna p B w w') (A:B'<=B):jna p B' w w':=⟨h.below,fun b h1 h2=>h.rest b (by omega) h2⟩
variable {lb cap:Nat}{N:Int}
set_option maxRecDepth 100000 in
theorem jyi (hL:L.length<=100000) (hS:S.next<=900000) (H:w.heap[p]? =some (pfB lb L.length cap N S)) (B:L.length<=cap) (k7:CW w lb L) (C:lb<p) :
 Calls Tryz.prog 86 #[.pointer (some ⟨p,0,none⟩)] w fun e w'=>∃nv S' ns,e= .returned nv/\jnI L 3 (S.want L 2) [jm9 (jm8 L 2 S)]=(S',ns)/\w'.heap[p]? =some (pfB lb L.length cap N S')/\w'.ownsRow w.heap.size 9 1 nv ns.length (ns.map Value.string)/\jna p w.heap.size w w'/\w.heap.size<=w'.heap.size/\1<=ns.length/\ns.length<=4:=by
 have x7:=lt_of_block H;have x2:=jH H;have r4:=jH k7;obtain⟨i0,v7,r9,x3,v3⟩:=info_parts Tryz.info9
 obtain⟨R,hR⟩:∃R,jnI L 3 (S.want L 2) [jm9 (jm8 L 2 S)]=R:=⟨_,rfl⟩
 have HR:=jH hR
 obtain⟨a0,a1,a2,F,K,q8⟩:∃a0 a1 a2 F,cwV (jm8 L 2 S)= .agg #[.int .i64 a0,.int .i64 a1,.int .i64 a2,.string F]/\F=jm9 (jm8 L 2 S):=⟨_,_,_,_,rfl,rfl⟩
 have v2:=jH K;have v5:=jH q8;rw[hR];have v9:Hid ((S.want L 2).next<=900001):=jA7 hL hS;clear H k7 hR K q8
 go_enter Tryz.func86,Tryz.ntmps86
 go_wp2_with (go_at_call 32;refine(jqI hL (by omega) x2.o B r4.o C).mono ?_;rw[v2.o];rintro _ w1 ⟨rfl,q4,q6⟩;have v8:=q6.below.size)
 have HA:∀(v:World) (o1 o2:Obj),Hid (Below v.heap.size v ((v.alloc o1).alloc o2)):=fun v o1 o2=>((jB.alloc jN _).alloc (by rw[Ya];omega) _)
 have x0:=jH q4;have v6:=jH q6;clear q4 q6
 go_loopw [4] (fun v wr=>∃(ns:List ByteArray) (T:PF),1<=ns.length/\ns.length<=4/\T.next<=900000+ns.length/\jnI L (4-ns.length) T ns=R/\jrk v=ns.length/\wr.ownsRow w.heap.size 9 1 v ns.length (ns.map Value.string)/\wr.heap[p]? =some (pfB lb L.length cap N T)/\jna p w.heap.size w wr/\w.heap.size<=wr.heap.size) (fun v _=>4-jrk v)
 case atStart=>
  have A:=(HA w1 (.cells #[.int .i64 a0,.int .i64 a1,.int .i64 a2,.string F] 90) (.cells #[.string F] 9)).out;refine⟨[F],S.want L 2,by simp,by simp,v9.o,by rw[v5.o];exact HR.o,rfl,?_,jng x0.o A (by omega),v6.o.trans (jna.of (A.mono v8) (by omega)),by have:=A.size;omega⟩;have h:=heap_alloc_new (w1.alloc (.cells #[.int .i64 a0,.int .i64 a1,.int .i64 a2,.string F] 90)) (.cells #[.string F] 9);rw[Ya]at h;exact jrM (xs:=[.string F]) h (by omega) (by simp[maxLen])
 case round=>
  obtain⟨ns,T,h1,h2,h3,h4,h5,h6,h7,h8,h9⟩:=hrel;obtain⟨g,c,rfl,x8,x5,v0,x9⟩:=jnX h6 h1;have E:=jH h6;have I:=jH h7;have k8:=jH h8;have Z:=jH h4;have q5:Hid (CW wr lb L):=r4.o.only h8 C;have k9:=jH h3
  obtain⟨kk,r5⟩:∃kk,(jE L T.next).k=kk:=⟨_,rfl⟩
  have k5:=jH r5
  obtain⟨b0,b1,b2,W,K,q9⟩:∃b0 b1 b2 W,cwV (jE L T.next)= .agg #[.int .i64 b0,.int .i64 b1,.int .i64 b2,.string W]/\W=jm9 (jE L T.next):=⟨_,_,_,_,rfl,rfl⟩
  have x1:=jH K;have v4:=jH q9;clear h4 h5 h6 h7 h8 h3 r5 K q9
  obtain⟨m,hm⟩:∃m,ns.length=m:=⟨_,rfl⟩
  have HM:=jH hm;rw[hm]at h1 h2 v0 ⊢ E Z k9;clear hm
  by_cases y0:m<4
  .have hd:decide ((m:Int)<4)=true:=by simp;omega
   by_cases hk:kk=2
   .subst hk
    have O:Hid (jnI L (4-(m+1)) T.take (ns ++[W])=R):=by
     have h:=Z.o;rw[show 4-m=(4-(m+1))+1 by omega,jnI,if_pos k5.o,<-v4.o]at h;exact h
    go_wp2_with (first
     |(go_at_call 61;refine(jpw k5.o hL I.o B q5.o C).mono ?_;rintro _ w2 ⟨rfl,A⟩;have v1:=A.size;have U:=jng I.o A (by omega);have r6:=q5.o.below A (by omega))
     |(go_at_call 67;refine(take_at x1.o hL (by have:=k9.o;omega) U B r6 C).mono ?_;rintro _ w3 ⟨rfl,r7,q7⟩;have x6:=q7.below.size;have Y:=joh (own_below E.o A) (fun b hb=>q7.rest b (by have:=E.o.lt b hb;omega) (by have:=E.o.lt b hb;omega)))
     |(at_builtin;refine JO _ rfl (.tmp 21) (.tmp 24) 87 rfl w.heap.size 9 i0 _ 1 16 Tryz.underlying87 v7 r9 x3 v3 rfl (by decide) _ _ _ rfl ((Y.alloc _).alloc _) _ 1 1 [.string W] rfl rfl (Ja _ _ _ _ (by simp)) ?_ ?_ ?_ ?_ ?_;(intro u hu;simp at hu;subst hu;rfl);(unfold maxLen;omega);omega;(simp;omega);intro v' w4 h0 r8 x4))
    obtain⟨g4,c4,rfl,k1,k2,k3,k4⟩:=jnX h0 (by omega);obtain⟨r1,r2,r3⟩:=app2 Y (show p<w.heap.size by omega) (by omega) r7 r8;have hl:(ns ++[W]).length=m+1:=by rw[Yg,HM.o];rfl
    refine⟨⟨ns ++[W],T.take,by omega,by omega,?_,by rw[hl];exact O.out,by rw[hl];rfl,?_,r1,?_,by omega⟩,?_⟩
    .rw[hl];have:=k9.o;show T.next+1<=_;omega
    .rw[hl,Km];exact h0
    .exact((k8.o.trans (jna.of (A.mono h9) (by omega))).trans (q7.less (by omega))).trans (jna.of r3 (by omega))
    .simp[jrk];omega
   .have hkb:((kk:Int) == (2:Int))=false:=by simp;omega
    have O:Hid (R=(T,ns)):=by
     have h:=Z.o;rw[show 4-m=(4-(m+1))+1 by omega,jnI,if_neg (by rw[k5.o];exact hk)]at h;exact h.symm
    clear hk
    go_wp2_with (go_at_call 61;refine(jpw k5.o hL I.o B q5.o C).mono ?_;rintro _ w2 ⟨rfl,A⟩;have v1:=A.size;have U:=jng I.o A (by omega))
    go_ret;exact⟨_,T,ns,rfl,O.out,U,by rw[HM.o];exact own_below E.o A,k8.o.trans (jna.of (A.mono h9) (by omega)),by omega,by rw[HM.o];exact⟨h1,h2⟩⟩
  .have hd:decide ((m:Int)<4)=false:=by simp;omega
   have O:Hid (R=(T,ns)):=by
    have h:=Z.o;rw[show 4-m=0 by omega,jnI]at h;exact h.symm
   go_wp2_with fail
   go_ret;exact⟨_,T,ns,rfl,O.out,I.o,by rw[HM.o];exact E.o,k8.o,by omega,by rw[HM.o];exact⟨h1,h2⟩⟩
theorem jpu {M:Nat}(B:L.length<=M) (A:S.next<=M):(S.want L k).next<=M+1:=by
 unfold PF.want
 split
 .show S.next+1<=_;omega
 .show L.length+1<=_;omega
def fnN (L:List Tok) (S:PF):PF × List ByteArray:=((jnI L 3 ((S.want L 2).want L 2) [jm9 (jm8 L 2 (S.want L 2))]).1,jm9 (jm8 L 2 S) ::(jnI L 3 ((S.want L 2).want L 2) [jm9 (jm8 L 2 (S.want L 2))]).2)
set_option maxRecDepth 100000 in
theorem jGi (hL:L.length<=100000) (hS:S.next<=800000) (A:w.heap[p]? =some (pfB lb L.length cap N S)) (E:L.length<=cap) (K:CW w lb L) (F:lb<p) :
 Calls Tryz.prog 83 #[.pointer (some ⟨p,0,none⟩)] w fun e w'=>∃nv S' ns,e= .returned nv/\fnN L S=(S',ns)/\w'.heap[p]? =some (pfB lb L.length cap N S')/\w'.ownsRow w.heap.size 9 1 nv ns.length (ns.map Value.string)/\jna p w.heap.size w w'/\w.heap.size<=w'.heap.size/\2<=ns.length/\ns.length<=5:=by
 have q9:=lt_of_block A;have q7:=jH A;have h3:=jH K;obtain⟨i0,k5,k2,q8,q5⟩:=info_parts Tryz.info9
 obtain⟨a0,a1,a2,C,h5,h1⟩:∃a0 a1 a2 C,cwV (jm8 L 2 S)= .agg #[.int .i64 a0,.int .i64 a1,.int .i64 a2,.string C]/\C=jm9 (jm8 L 2 S):=⟨_,_,_,_,rfl,rfl⟩
 have k8:=jH h5;unfold fnN;rw[<-h1]
 obtain⟨Y,U⟩:∃Y,S.want L 2=Y:=⟨_,rfl⟩
 have q4:=jpu (L:=L) (k:=2) (M:=800000) (by omega) hS;rw[U]at q4 ⊢;have k1:=jH U
 obtain⟨R,hR⟩:∃R,jnI L 3 (Y.want L 2) [jm9 (jm8 L 2 Y)]=R:=⟨_,rfl⟩
 have HR:=jH hR;rw[hR];clear A K hR h5 h1 U
 go_enter Tryz.func83,Tryz.ntmps83
 go_wp2_with (first
  |(go_at_call 32;refine(jqI hL (by omega) q7.o E h3.o F).mono ?_;rw[k8.o,k1.o];rintro _ H ⟨rfl,h9,W⟩;have r1:=W.below.size;have h6:=h3.o.only W F)
  |(go_at_call 86;refine(jyi hL (by omega) (jny h9) E (h6.below ((Ko H.heap.size H).alloc jN _) (by omega)) F).mono ?_;rw[HR.o];rintro _ w2 ⟨nv,S2,ns,rfl,k9,h8,B,I,k7,k4,r6⟩;rw[Ya]at k7 B I;obtain⟨g,c,rfl,r3,r5,r2,r4⟩:=jnX B k4;have h7:=(I.rest H.heap.size (by omega) (by omega)).trans (jnC H _);have e3:=jmp h7 3 rfl)
  |(at_builtin;refine JO _ rfl (.tmp 11) (.tmp 12) 87 rfl w.heap.size 9 i0 _ 1 16 Tryz.underlying87 k5 k2 q8 q5 rfl (by decide) _ _ _ rfl (jrM (xs:=[.string C]) (heap_alloc_new w2 _) (by omega) (by simp[maxLen])) _ ns.length c (ns.map Value.string) rfl (by simp) ((B.alloc _).cells rfl) ?_ ?_ ?_ ?_ ?_;(intro u hu;simp at hu;obtain⟨x,_,rfl⟩:=hu;rfl);(simp[maxLen];omega);(simp;omega);(simp;omega);intro v' w4 h0 O Z))
 have h2:(w2.alloc (.cells #[.string C] 9)).grownBy w4 (some w2.heap.size):=O;have h4:Below w.heap.size w2 w4:=(jB.alloc (by omega) _).grown h2 (by rw[Ya];omega) (fun k hk=>by cases hk;omega);have q6:=h2.size;rw[Ya]at q6;have hl:(C ::ns).length=[Value.string C].length+ns.length:=by simp[Ks]
 clear O Z;subst k9;go_ret;refine⟨_,S2,C ::ns,rfl,rfl,jng h8 h4 (by omega),?_,?_,by omega,by simp;omega,by simp;omega⟩
 .rw[hl];exact h0
 .exact((W.trans (jna.of ((Ko w.heap.size H).alloc (by omega) _) (by omega))).trans (I.less (by omega))).trans (jna.of h4 (by omega))
def tupL (L:List Tok):Nat->PF->List ByteArray->PF × List ByteArray
 |0,S,ns=>(S,ns)
 |f+1,S,ns=>if(jE L S.next).k=25 then tupL L f (S.take.want L 2) (ns ++[jm9 (jm8 L 2 S.take)]) else(S,ns)
def tpB (L:List Tok) (N:Int) (S:PF):PF × List ByteArray:=
 tupL L 4 ((((S.begin L N 23).want L 2).want L 25).want L 2) [jm9 (jm8 L 2 (S.begin L N 23)),jm9 (jm8 L 2 (((S.begin L N 23).want L 2).want L 25))]
def tpN (L:List Tok) (N:Int) (S:PF):PF × List ByteArray:=((tpB L N S).1.finish L,(tpB L N S).2)
theorem jwE {M:Nat}(A:L.length<=M) (B:S.next<=M):(S.begin L N k).next<=M+1:=by
 show(S.beg0 L N k).next+1<=_
 have:(S.beg0 L N k).next<=M:=by
  unfold PF.beg0
  split <;> (try split)
  .exact A
  .exact B
  .exact A
 omega
theorem jAp (L:List Tok) (N:Int) (k:Nat) (S:PF):(S.begin L N k).opn=S.opn+1:=by
 show(S.beg0 L N k).opn+1=_;rw[jAr]
set_option maxRecDepth 100000 in
theorem jBp (I:L.length<=100000) (hS:S.next<=800000) (R1: -100000<=S.opn) (N8:S.opn<=100000) (R:w.heap[p]? =some (pfB lb L.length cap N S)) (B:L.length<=cap) (v3:CW w lb L) (A:lb<p) :
 Calls Tryz.prog 84 #[.pointer (some ⟨p,0,none⟩)] w fun e w'=>∃nv S' ns,e= .returned nv/\tpN L N S=(S',ns)/\w'.heap[p]? =some (pfB lb L.length cap N S')/\w'.ownsRow w.heap.size 9 1 nv ns.length (ns.map Value.string)/\jna p w.heap.size w w'/\w.heap.size<=w'.heap.size/\2<=ns.length/\ns.length<=6:=by
 have Y1:=lt_of_block R;have K9:=jH R;have v2:=jH v3;obtain⟨i0,R0,H8,R7,N5⟩:=info_parts Tryz.info9
 obtain⟨RB,H⟩:∃RB,tpB L N S=RB:=⟨_,rfl⟩
 unfold tpN;rw[H];unfold tpB at H;have x5:=jwE (L:=L) (N:=N) (k:=23) (M:=800000) (by omega) hS;have y6:=jAp L N 23 S
 obtain⟨z0,z1,z2,z3,y7⟩:∃z0 z1 z2 z3,cwV (jE L (S.beg0 L N 23).next)= .agg #[.int .i64 z0,.int .i64 z1,.int .i64 z2,.string z3]:=⟨_,_,_,_,rfl⟩
 have K0:=jH y7
 obtain⟨S0,v4⟩:∃S0,S.begin L N 23=S0:=⟨_,rfl⟩
 have R2:=jH v4;rw[v4]at H x5 y6;have z7:=jpu (L:=L) (k:=2) (M:=800001) (by omega) x5;have x9:=jsd L 2 S0
 obtain⟨a0,a1,a2,a3,z4,x8⟩:∃a0 a1 a2 a3,cwV (jm8 L 2 S0)= .agg #[.int .i64 a0,.int .i64 a1,.int .i64 a2,.string a3]/\a3=jm9 (jm8 L 2 S0):=⟨_,_,_,_,rfl,rfl⟩
 have N3:=jH z4
 obtain⟨S1,r7⟩:∃S1,S0.want L 2=S1:=⟨_,rfl⟩
 have N0:=jH r7;rw[<-x8,r7]at H;rw[r7]at z7 x9;have x3:=jpu (L:=L) (k:=25) (M:=800002) (by omega) z7;have y9:=jsd L 25 S1
 obtain⟨y0,y1,y2,y3,z8⟩:∃y0 y1 y2 y3,cwV (jm8 L 25 S1)= .agg #[.int .i64 y0,.int .i64 y1,.int .i64 y2,.string y3]:=⟨_,_,_,_,rfl⟩
 have N4:=jH z8
 obtain⟨S2,v8⟩:∃S2,S1.want L 25=S2:=⟨_,rfl⟩
 have K8:=jH v8;rw[v8]at H x3 y9;have x6:=jpu (L:=L) (k:=2) (M:=800003) (by omega) x3;have y4:=jsd L 2 S2
 obtain⟨b0,b1,b2,K,z6,y5⟩:∃b0 b1 b2 K,cwV (jm8 L 2 S2)= .agg #[.int .i64 b0,.int .i64 b1,.int .i64 b2,.string K]/\K=jm9 (jm8 L 2 S2):=⟨_,_,_,_,rfl,rfl⟩
 have R8:=jH z6
 obtain⟨S3,r6⟩:∃S3,S2.want L 2=S3:=⟨_,rfl⟩
 have R3:=jH r6;rw[<-y5,r6]at H;rw[r6]at x6 y4;have N1:=jH H;have K4:Hid (S3.opn=S.opn+1):=by show _=_;omega
 clear R v3 H y7 z4 z8 z6 x8 y5 v4 r7 v8 r6 y6 x9 y9 y4
 go_enter Tryz.func84,Tryz.ntmps84
 go_wp2_with (first
  |(go_at_call 97;refine(jmd I (by omega) (by omega) (by omega) K9.o B v2.o A).mono ?_;rw[K0.o,R2.o];rintro _ w0 ⟨rfl,v0,r8⟩;have K6:=r8.below.size;have q7:=v2.o.only r8 A)
  |(go_at_call 32;refine(jqI I (show S0.next<=1000000 by omega) v0 B q7 A).mono ?_;rw[N3.o,N0.o];rintro _ w1 ⟨rfl,v9,r9⟩;clear v0;have Y5:=r9.below.size;have k8:=q7.only r9 A)
  |(go_at_call 32;refine(jqI I (show S1.next<=1000000 by omega) (jny v9) B (k8.below ((Ko w1.heap.size w1).alloc jN _) (by omega)) A).mono ?_;rw[N4.o,K8.o];rintro _ w2 ⟨rfl,v6,O⟩;have N2:=O.below.size;have q6:=(k8.below ((Ko w1.heap.size w1).alloc jN _) (by omega)).only O A;clear v9;rw[Ya]at N2 O;have v1:=(O.rest w1.heap.size (by omega) (by omega)).trans (jnC w1 _))
  |(go_at_call 32;refine(jqI I (show S2.next<=1000000 by omega) v6 B q6 A).mono ?_;rw[R8.o,R3.o];rintro _ w3 ⟨rfl,x0,Z⟩;clear v6;have Y4:=Z.below.size;have H2:=q6.only Z A;have k9:=(Z.rest w1.heap.size (by omega) (by omega)).trans v1;have e3:=jmp (jny (o:=.cells #[.int .i64 b0,.int .i64 b1,.int .i64 b2,.string K] 90) k9) 3 rfl;have K5:=jmp k9 3 rfl))
 have HA:∀(v:World) (o1 o2:Obj),Hid (Below v.heap.size v ((v.alloc o1).alloc o2)):=fun v o1 o2=>((jB.alloc jN _).alloc (by rw[Ya];omega) _)
 have R5:=jH x0;have N9:Hid (jna p w.heap.size w w3):=(((r8.trans (r9.less K6)).trans (jna.of ((Ko w.heap.size w1).alloc (by omega) _) (by omega))).trans (O.less (by omega))).trans (Z.less (by omega));have H4:w.heap.size<=w3.heap.size:=by omega
 clear x0 r8 r9 O Z v1 k9 e3 K5 q7 k8 q6 H2
 go_loopw [5] (fun v wr=>∃(ns:List ByteArray) (T:PF),2<=ns.length/\ns.length<=6/\T.next<=800000+2*ns.length/\T.opn=S.opn+1/\tupL L (6-ns.length) T ns=RB/\jrk v=ns.length/\wr.ownsRow w.heap.size 9 1 v ns.length (ns.map Value.string)/\wr.heap[p]? =some (pfB lb L.length cap N T)/\jna p w.heap.size w wr/\w.heap.size<=wr.heap.size) (fun v _=>6-jrk v)
 case atStart=>
  have v5:=(HA w3 (.cells #[.int .i64 b0,.int .i64 b1,.int .i64 b2,.string K] 90) (.cells #[.string a3,.string K] 9)).out;refine⟨[a3,K],S3,by simp,by simp,x6,K4.o,N1.o,rfl,?_,jng R5.o v5 (by omega),N9.o.trans (jna.of (v5.mono H4) (by omega)),by have:=v5.size;omega⟩;have h:=heap_alloc_new (w3.alloc (.cells #[.int .i64 b0,.int .i64 b1,.int .i64 b2,.string K] 90)) (.cells #[.string a3,.string K] 9);rw[Ya]at h;exact jrM (xs:=[.string a3,.string K]) h (by omega) (by simp[maxLen])
 case round=>
  obtain⟨ns,T,h1,h2,h3,H0,h4,h5,h6,h7,h8,h9⟩:=hrel;obtain⟨g,c,rfl,Y6,Y2,K1,Y7⟩:=jnX h6 (by omega);have C:=jH h6;have h0:=jH h7;have x1:=jH h8;have q9:=jH h4;have k7:Hid (CW wr lb L):=v2.o.only h8 A;have Y:=jH h3;have k5:=jH H0
  obtain⟨kk,z9⟩:∃kk,(jE L T.next).k=kk:=⟨_,rfl⟩
  have r5:=jH z9
  obtain⟨q0,q1,q2,q3,z5⟩:∃q0 q1 q2 q3,cwV (jE L T.next)= .agg #[.int .i64 q0,.int .i64 q1,.int .i64 q2,.string q3]:=⟨_,_,_,_,rfl⟩
  have N7:=jH z5
  obtain⟨r0,r1,r2,r3,y8,x7⟩:∃r0 r1 r2 r3,cwV (jm8 L 2 T.take)= .agg #[.int .i64 r0,.int .i64 r1,.int .i64 r2,.string r3]/\r3=jm9 (jm8 L 2 T.take):=⟨_,_,_,_,rfl,rfl⟩
  have N6:=jH y8;have R4:=jH x7;clear h4 h5 h6 h7 h8 h3 H0 z9 z5 y8 x7
  obtain⟨m,hm⟩:∃m,ns.length=m:=⟨_,rfl⟩
  have HM:=jH hm;rw[hm]at h1 h2 K1 ⊢ C q9 Y;clear hm
  by_cases Y0:m<6
  .have hd:decide ((m:Int)<6)=true:=by simp;omega
   by_cases hk:kk=25
   .subst hk
    have W:Hid (tupL L (6-(m+1)) (T.take.want L 2) (ns ++[r3])=RB):=by
     have h:=q9.o;rw[show 6-m=(6-(m+1))+1 by omega,tupL,if_pos r5.o,<-R4.o]at h;exact h
    have H9:T.take.next<=800000+2*m+1:=by have:=Y.o;show T.next+1<=_;omega
    have R6:Hid ((T.take.want L 2).next<=800000+2*m+1+1):=jpu (by omega) H9;have H1:Hid ((T.take.want L 2).opn=S.opn+1):=(jsd L 2 T.take).trans k5.o
    go_wp2_with (first
     |(go_at_call 61;refine(jpw r5.o I h0.o B k7.o A).mono ?_;rintro _ w4 ⟨rfl,F⟩;have K7:=F.size;have q5:=jng h0.o F (by omega);have U:=k7.o.below F (by omega))
     |(go_at_call 67;refine(take_at N7.o I (by have:=Y.o;omega) q5 B U A).mono ?_;rintro _ w5 ⟨rfl,H5,E⟩;have x4:=E.below.size;have H6:=U.only E A;have x2:=joh (own_below C.o F) (fun b hb=>E.rest b (by have:=C.o.lt b hb;omega) (by have:=C.o.lt b hb;omega)))
     |(go_at_call 32;refine(jqI I (by omega) H5 B H6 A).mono ?_;rw[N6.o];rintro _ w6 ⟨rfl,H3,v7⟩;have Y3:=v7.below.size;have r4:=joh x2 (fun b hb=>v7.rest b (by have:=C.o.lt b hb;omega) (by have:=C.o.lt b hb;omega)))
     |(at_builtin;refine JO _ rfl (.tmp 32) (.tmp 35) 87 rfl w.heap.size 9 i0 _ 1 16 Tryz.underlying87 R0 H8 R7 N5 rfl (by decide) _ _ _ rfl ((r4.alloc _).alloc _) _ 1 1 [.string r3] rfl rfl (Ja _ _ _ _ (by simp)) ?_ ?_ ?_ ?_ ?_;(intro u hu;simp at hu;subst hu;rfl);(unfold maxLen;omega);omega;(simp;omega);intro v' w7 q8 H7 R9))
    obtain⟨g7,c7,rfl,k1,k2,k3,k4⟩:=jnX q8 (by omega);obtain⟨t1,t2,t3⟩:=app2 r4 (show p<w.heap.size by omega) (by omega) H3 H7;have hl:(ns ++[r3]).length=m+1:=by rw[Yg,HM.o];rfl
    refine⟨⟨ns ++[r3],T.take.want L 2,by omega,by omega,?_,H1.o,by rw[hl];exact W.out,by rw[hl];rfl,?_,t1,?_,by omega⟩,?_⟩
    .rw[hl];have:=R6.o;omega
    .rw[hl,Km];exact q8
    .exact(((x1.o.trans (jna.of (F.mono h9) (by omega))).trans (E.less (by omega))).trans (v7.less (by omega))).trans (jna.of t3 (by omega))
    .simp[jrk];omega
   .have hkb:((kk:Int) == (25:Int))=false:=by simp;omega
    have W:RB=(T,ns):=by
     have h:=q9.o;rw[show 6-m=(6-(m+1))+1 by omega,tupL,if_neg (by rw[r5.o];exact hk)]at h;exact h.symm
    subst W;clear hk
    go_wp2_with (first
     |(go_at_call 61;refine(jpw r5.o I h0.o B k7.o A).mono ?_;rintro _ w4 ⟨rfl,F⟩;have K7:=F.size;have q5:=jng h0.o F (by omega);have U:=k7.o.below F (by omega))
     |(go_at_call 98;refine(jtP I (by have:=Y.o;omega) (by have:=k5.o;omega) (by have:=k5.o;omega) q5 B U A).mono ?_;rintro _ w5 ⟨⟨K2,rfl⟩,q4,E⟩;have x4:=E.below.size))
    go_ret;exact⟨_,rfl,_,ns,⟨rfl,rfl⟩,q4,by rw[HM.o];exact joh (own_below C.o F) (fun b hb=>E.rest b (by have:=C.o.lt b hb;omega) (by have:=C.o.lt b hb;omega)),(x1.o.trans (jna.of (F.mono h9) (by omega))).trans (E.less (by omega)),by omega,by rw[HM.o];exact⟨h1,h2⟩⟩
  .have hd:decide ((m:Int)<6)=false:=by simp;omega
   have W:RB=(T,ns):=by
    have h:=q9.o;rw[show 6-m=0 by omega,tupL]at h;exact h.symm
   subst W
   go_wp2_with (go_at_call 98;refine(jtP I (by have:=Y.o;omega) (by have:=k5.o;omega) (by have:=k5.o;omega) h0.o B k7.o A).mono ?_;rintro _ w5 ⟨⟨K2,rfl⟩,q4,E⟩;have x4:=E.below.size)
   go_ret;exact⟨_,rfl,_,ns,⟨rfl,rfl⟩,q4,by rw[HM.o];exact joh C.o (fun b hb=>E.rest b (by have:=C.o.lt b hb;omega) (by have:=C.o.lt b hb;omega)),x1.o.trans (E.less (by omega)),by omega,by rw[HM.o];exact⟨h1,h2⟩⟩
structure Q where
 S:PF
 ps:List CP
namespace Q
def kind (L:List Tok) (q:Q):Nat:=(jE L q.S.next).k
def word (L:List Tok) (q:Q):Tok:=jE L q.S.next
def take (q:Q):Q:=⟨q.S.take,q.ps⟩
def want (L:List Tok) (k:Nat) (q:Q):Q:=⟨q.S.want L k,q.ps⟩
def fail (L:List Tok) (e:Int) (q:Q):Q:=⟨q.S.fail L e,q.ps⟩
def beg (L:List Tok) (N:Int) (k:Nat) (q:Q):Q:=⟨q.S.begin L N k,q.ps⟩
def begW (L:List Tok) (N:Int) (k:Nat) (q:Q):Tok:=jE L (q.S.beg0 L N k).next
def finish (L:List Tok) (q:Q):Q:=⟨q.S.finish L,q.ps⟩
def fine (q:Q):Prop:=q.S.next<=500000/\-50000<=q.S.opn/\q.S.opn<=50000/\q.ps.length<=90000
instance (q:Q):Decidable q.fine:=by unfold fine;infer_instance
def add (q:Q) (c:CP):Q:=⟨q.S,q.ps ++[c]⟩
def par (L:List Tok) (q:Q):Q × List ByteArray:=let r:=jnI L 3 (q.S.want L 2) [jm9 (jm8 L 2 q.S)];(⟨r.1,q.ps⟩,r.2)
def fnm (L:List Tok) (q:Q):Q × List ByteArray:=let r:=fnN L q.S;(⟨r.1,q.ps⟩,r.2)
def tpm (L:List Tok) (N:Int) (q:Q):Q × List ByteArray:=let r:=tpN L N q.S;(⟨r.1,q.ps⟩,r.2)
end Q
inductive Md where
 |expr|lett|choice|func|seq|cmp|sum|prod|un|call|operand|atom|brk
 |pref (k c:Nat)
 |sumL (l:Int)|prodL (l:Int)|operL (l:Int)
 |callL (ks:List Int)|tupL (t:Tok) (ks:List Int)|prefL (k c:Nat) (t:Tok) (ks:List Int)
abbrev Rt:=Option (Int × Q)
def bnd (r:Rt) (f:Int->Q->Rt):Rt:=
 match r with
 |some (x,q)=>if q.fine then f x q else none
 |none=>none
def out (x:Int) (q:Q):Rt:=if q.fine then some (x,q) else none
def jnu (q:Q) (c:CP):Rt:=if q.fine then some (q.ps.length,q.add c) else none
def jov (L:List Tok) (N:Int) (q:Q):Nat × Q × List ByteArray:=
 if q.kind L=4 then(9,q.take.fnm L) else if q.kind L=23 then(10,q.tpm L N) else(8,q.want L 2,[jm9 (jm8 L 2 q.S)])
def jm1 (L:List Tok) (N:Int) (rec:Md->Q->Rt) (m:Md) (q:Q):Rt:=
 match m with
 | .expr=>if q.kind L=3 then rec .lett q else if q.kind L=6 then rec .choice q else if q.kind L=9 then rec .func q else rec .seq q
 | .lett=>
   let t:=q.word L
   let z:=jov L N q.take
   bnd (rec .expr (z.2.1.want L 27)) fun a q2=>bnd (rec .expr (q2.want L 5)) fun b q3=>jnu q3 ⟨z.1,t.p,t.k,0,z.2.2,[a,b]⟩
 | .choice=>
   let t:=q.word L
   bnd (rec .expr q.take) fun a q1=>bnd (rec .expr (q1.want L 7)) fun b q2=>bnd (rec .expr (q2.want L 8)) fun c q3=>jnu q3 ⟨11,t.p,t.k,0,[],[a,b,c]⟩
 | .func=>
   let t:=q.word L
   let z:=q.take.par L
   bnd (rec .expr (z.1.want L 22)) fun b q2=>jnu q2 ⟨12,t.p,t.k,0,z.2,[b]⟩
 | .seq=>bnd (rec .cmp q) fun a q1=>if q1.kind L≠26 then out a q1 else bnd (rec .expr q1.take) fun b q2=>jnu q2 ⟨18,(q1.word L).p,(q1.word L).k,0,[],[a,b]⟩
 | .cmp=>bnd (rec .sum q) fun a q1=>if cOp (q1.kind L)≠17 then out a q1 else bnd (rec .sum q1.take) fun b q2=>jnu q2 ⟨17,(q1.word L).p,(q1.word L).k,0,[],[a,b]⟩
 | .sum=>bnd (rec .prod q) fun a q1=>rec (.sumL a) q1
 | .sumL a=>if cOp (q.kind L)≠16 then out a q else bnd (rec .prod q.take) fun b q2=>bnd (jnu q2 ⟨16,(q.word L).p,(q.word L).k,0,[],[a,b]⟩) fun x q3=>rec (.sumL x) q3
 | .prod=>bnd (rec .un q) fun a q1=>rec (.prodL a) q1
 | .prodL a=>if cOp (q.kind L)≠15 then out a q else bnd (rec .un q.take) fun b q2=>bnd (jnu q2 ⟨15,(q.word L).p,(q.word L).k,0,[],[a,b]⟩) fun x q3=>rec (.prodL x) q3
 | .un=>
   if q.kind L=31 then bnd (rec .un q.take) fun b q2=>jnu q2 ⟨13,(q.word L).p,(q.word L).k,0,[],[b]⟩
   else if q.kind L=10 then bnd (rec .un q.take) fun b q2=>jnu q2 ⟨14,(q.word L).p,(q.word L).k,0,[],[b]⟩
   else rec .call q
 | .call=>
   if q.kind L=14 then rec (.pref 21 1) q else if q.kind L=15 then rec (.pref 22 1) q else if q.kind L=16 then rec (.pref 23 2) q else if q.kind L=17 then rec (.pref 24 3) q
   else bnd (rec .operand q) fun a q1=>rec (.callL [a]) q1
 | .callL ks=>
   if ks.length<=4/\job (q.kind L)=true then bnd (rec .operand q) fun b q1=>rec (.callL (ks ++[b])) q1
   else match ks with
    |[a]=>out a q
    |a ::_=>if -1<=a/\a<=100000 then jnu q ⟨19,joO q.ps a,0,0,[],ks⟩ else none
    |[]=>none
 | .pref k c=>rec (.prefL k c (q.word L) []) q.take
 | .prefL k c t ks=>if ks.length<c then bnd (rec .operand q) fun b q1=>rec (.prefL k c t (ks ++[b])) q1 else jnu q ⟨k,t.p,t.k,0,[],ks⟩
 | .operand=>bnd (rec .atom q) fun a q1=>rec (.operL a) q1
 | .operL a=>
   if q.kind L≠18 then out a q
   else bnd (rec .expr (q.beg L N 18)) fun b q1=>bnd (jnu (q1.finish L) ⟨20,(q.begW L N 18).p,(q.begW L N 18).k,0,[],[a,b]⟩) fun x q2=>rec (.operL x) q2
 | .atom=>
   if q.kind L=1 then jnu q.take ⟨1,(q.word L).p,0,(q.word L).n,[],[]⟩
   else if q.kind L=2 then jnu q.take ⟨5,(q.word L).p,0,0,[jm9 (q.word L)],[]⟩
   else if q.kind L=11 then rec (.pref 2 0) q else if q.kind L=12 then rec (.pref 3 0) q else if q.kind L=13 then rec (.pref 4 0) q
   else if q.kind L=23 then rec .brk q
   else out (-1) (q.fail L 4)
 | .brk=>
   let t:=q.begW L N 23
   let q1:=q.beg L N 23
   if q1.kind L=24 then jnu (q1.finish L) ⟨6,t.p,0,0,[],[]⟩ else bnd (rec .expr q1) fun a q2=>rec (.tupL t [a]) q2
 | .tupL t ks=>
   if ks.length<6/\q.kind L=25 then bnd (rec .expr q.take) fun b q1=>rec (.tupL t (ks ++[b])) q1
   else match ks with
    |[a]=>out a (q.finish L)
    |_=>jnu (q.finish L) ⟨7,t.p,0,0,[],ks⟩
def pr (L:List Tok) (N:Int):Nat->Md->Q->Rt
 |0,_,_=>none
 |n+1,m,q=>if q.fine then jm1 L N (pr L N n) m q else none
variable {y:Int × Q}
theorem jnd {r:Rt}{f:Int->Q->Rt}(h:bnd r f=some y):∃x q,r=some (x,q)/\q.fine/\f x q=some y:=by
 unfold bnd at h
 split at h
 .split at h
  .exact⟨_,_,rfl,by assumption,h⟩
  .cases h
 .cases h
variable {q:Q}
theorem joi {x y:Int}{q':Q}(h:out x q=some (y,q')):q.fine/\y=x/\q'=q:=by
 unfold out at h
 split at h
 .cases h;exact⟨by assumption,rfl,rfl⟩
 .cases h
theorem jnR {y:Int}{q':Q}{c:CP}(h:jnu q c=some (y,q')):q.fine/\y=q.ps.length/\q'=q.add c:=by
 unfold jnu at h
 split at h
 .cases h;exact⟨by assumption,rfl,rfl⟩
 .cases h
theorem jop {m:Md}(h:pr L N n m q=some y):q.fine/\∃k,n=k+1/\jm1 L N (pr L N k) m q=some y:=by
 cases n with
 |zero=>cases h
 |succ n=>
  rw[pr]at h
  split at h
  .exact⟨by assumption,n,rfl,h⟩
  .cases h
def Le (r r':Md->Q->Rt):Prop:=∀m q y,r m q=some y->r' m q=some y
theorem jAl {r A:Rt}{f B:Int->Q->Rt}(h:∀y,r=some y->A=some y) (C:∀x q y,f x q=some y->B x q=some y):∀y,bnd r f=some y->bnd A B=some y:=by
 intro y F;obtain⟨x,q,H,I,E⟩:=jnd F;rw[h _ H];simp only[bnd,if_pos I];exact C _ _ _ E
theorem jDH {r A:Md->Q->Rt}(h:Le r A):Le (jm1 L N r) (jm1 L N A):=by
 intro m q
 cases m <;> simp only[jm1] <;> repeat' first
  |exact h _ _
  |(intro y B;exact B)
  |(refine jAl (h _ _) (fun x q=>?_))
  |(refine jAl (fun y B=>B) (fun x q=>?_))
  |split
theorem jDM (L:List Tok) (N:Int):∀n,Le (pr L N n) (pr L N (n+1)):=by
 intro n
 induction n with
 |zero=>intro m q y h;cases h
 |succ n ih=>
  intro m q y h;obtain⟨B,k,C,A⟩:=jop h;cases C;rw[pr,if_pos B];exact jDH ih _ _ _ A
theorem jnj {A:Nat}(B:n<=A) {m:Md}(h:pr L N n m q=some y):pr L N A m q=some y:=by
 induction B with
 |refl=>exact h
 |step _ ih=>exact jDM L N _ _ _ _ ih
theorem jxz (S:PF) (v:Value):(S.row v).take=S.take.row v:=rfl
theorem jGH (L:List Tok) (e:Int) (S:PF) (v:Value):(S.row v).fail L e=(S.fail L e).row v:=rfl
theorem jqo (L:List Tok) (k:Nat) (S:PF) (v:Value):(S.row v).want L k=(S.want L k).row v:=by
 unfold PF.want
 by_cases h:(jE L S.next).k=k
 .rw[if_pos h,if_pos (show(jE L (S.row v).next).k=k from h)];rfl
 .rw[if_neg h,if_neg (show ¬(jE L (S.row v).next).k=k from h)];rfl
theorem jA8 (L:List Tok) (k:Nat) (S:PF) (v:Value):jm8 L k (S.row v)=jm8 L k S:=rfl
theorem jv9 (L:List Tok) (S:PF) (v:Value):(S.row v).finish L=(S.finish L).row v:=by
 unfold PF.finish;rw[jqo];rfl
theorem jAq (L:List Tok) (N:Int) (k:Nat) (S:PF) (v:Value):(S.row v).beg0 L N k=(S.beg0 L N k).row v:=by
 unfold PF.beg0
 by_cases h:(jE L S.next).k=k
 .rw[if_pos h,if_pos (show(jE L (S.row v).next).k=k from h)]
  by_cases A:N<=S.opn
  .rw[if_pos A,if_pos (show N<=(S.row v).opn from A)];rfl
  .rw[if_neg A,if_neg (show ¬N<=(S.row v).opn from A)]
 .rw[if_neg h,if_neg (show ¬(jE L (S.row v).next).k=k from h)];rfl
theorem jAo (L:List Tok) (N:Int) (k:Nat) (S:PF) (v:Value):(S.row v).begin L N k=(S.begin L N k).row v:=by
 unfold PF.begin;rw[jAq];rfl
theorem jvk (L:List Tok) (v:Value):∀(f:Nat) (S:PF) (ns:List ByteArray),jnI L f (S.row v) ns=((jnI L f S ns).1.row v,(jnI L f S ns).2)
 |0,S,ns=>rfl
 |f+1,S,ns=>by
  by_cases h:(jE L S.next).k=2
  .rw[jnI,jnI,if_pos h,if_pos (show(jE L (S.row v).next).k=2 from h),jxz,jvk L v f];rfl
  .rw[jnI,jnI,if_neg h,if_neg (show ¬(jE L (S.row v).next).k=2 from h)]
theorem jGp (L:List Tok) (v:Value) (S:PF):fnN L (S.row v)=((fnN L S).1.row v,(fnN L S).2):=by
 unfold fnN;rw[jqo,jqo,jvk];rfl
theorem jxi (L:List Tok) (v:Value):∀(f:Nat) (S:PF) (ns:List ByteArray),tupL L f (S.row v) ns=((tupL L f S ns).1.row v,(tupL L f S ns).2)
 |0,S,ns=>rfl
 |f+1,S,ns=>by
  by_cases h:(jE L S.next).k=25
  .rw[tupL,tupL,if_pos h,if_pos (show(jE L (S.row v).next).k=25 from h),jxz,jqo,jxi L v f];rfl
  .rw[tupL,tupL,if_neg h,if_neg (show ¬(jE L (S.row v).next).k=25 from h)]
theorem jBE (L:List Tok) (N:Int) (v:Value) (S:PF):tpN L N (S.row v)=((tpN L N S).1.row v,(tpN L N S).2):=by
 have h:tpB L N (S.row v)=((tpB L N S).1.row v,(tpB L N S).2):=by
  unfold tpB;rw[jAo,jqo,jqo,jqo,jxi];rfl
 unfold tpN;rw[h,jv9]
structure PE (p lb cap base:Nat) (L:List Tok):Prop where
 lbp:lb<p
 pb:p<base
 cap:L.length<=cap
 len:L.length<=1000
structure PM (w:World) (p lb cap base:Nat) (N:Int) (L:List Tok) (q:Q) (pv:Value) (D:Nat->Prop):Prop where
 blk:w.heap[p]? =some (pfB lb L.length cap N (q.S.row pv))
 ps:∃vs,jnZ w base pv q.ps vs/\∀b,D b->∀v ∈ vs,v.1.ownBlock≠some b/\v.2.ownBlock≠some b
 cw:CW w lb L
 bs:base<=w.heap.size
 dl:∀b,D b->b<w.heap.size
section
variable {w w':World}{p lb cap base:Nat}{N:Int}{L:List Tok}{q:Q}{pv:Value}{D:Nat->Prop}
theorem PM.weak {D':Nat->Prop}(h:PM w p lb cap base N L q pv D) (hd:∀b,D' b->D b):PM w p lb cap base N L q pv D':=by
 obtain⟨vs,A,B⟩:=h.ps;exact⟨h.blk,⟨vs,A,fun b hb=>B b (hd b hb)⟩,h.cw,h.bs,fun b hb=>h.dl b (hd b hb)⟩
theorem PM.below (h:PM w p lb cap base N L q pv D) (E:PE p lb cap base L) (A:Below w.heap.size w w'):PM w' p lb cap base N L q pv D:=by
 have I:=h.bs;have K:=E.pb;have H:=E.lbp;have C:=A.size;obtain⟨vs,F,B⟩:=h.ps;exact⟨jng h.blk A (by omega),⟨vs,F.below A,B⟩,h.cw.below A (by omega),by omega,fun b hb'=>Yj (h.dl b hb') C⟩
theorem PM.al (h:PM w p lb cap base N L q pv D) (E:PE p lb cap base L) (o:Obj):PM (w.alloc o) p lb cap base N L q pv D:=h.below E (jB.alloc jN _)
theorem PM.step (h:PM w p lb cap base N L q pv D) (E:PE p lb cap base L) {S:PF}(C:w'.heap[p]? =some (pfB lb L.length cap N (S.row pv))) (A:jna p w.heap.size w w'):PM w' p lb cap base N L ⟨S,q.ps⟩ pv D:=by
 have B:=A.below.size;have I:=h.bs;obtain⟨vs,H,F⟩:=h.ps;exact⟨C,⟨vs,H.only A B E.pb,F⟩,h.cw.only A E.lbp,by omega,fun b hb'=>Yj (h.dl b hb') B⟩
theorem PM.row (h:PM w p lb cap base N L q pv D):∀b,w.heap.size<=b->pv.ownBlock≠some b:=by
 obtain⟨vs,A,B⟩:=h.ps;exact A.row_lt
theorem PM.lt (h:PM w p lb cap base N L q pv D) (E:PE p lb cap base L):p<w.heap.size:=by
 have:=E.pb;have:=h.bs;omega
abbrev Kp (p:Nat) (pv pv':Value) (w w':World):Prop:=Fr p pv.ownBlock pv'.ownBlock w w'
theorem Fr.al (h:PM w p lb cap base N L q pv D) (E:PE p lb cap base L) (o:Obj):Kp p pv pv w (w.alloc o):=Fr.below' (jB.alloc jN _) (Ug (h.lt E))
theorem Fr.loc {r A:Option Nat}{b:Nat}{X:Obj}(h:Fr p r A w w') (B:w.heap[b]? =some X) (F:b≠p) (C:r≠some b):w'.heap[b]? =some X/\A≠some b:=by
 have H:=lt_of_block B;refine⟨(h.rest b H F C).trans B,fun h2=>?_⟩;rcases h.row b h2 with E|E
 .exact C E
 .omega
theorem joY (t:Tok):∃(tk tp:Nat) (tn:Int) (ts:ByteArray),cwV t= .agg #[.int .i64 (tk:Nat),.int .i64 (tp:Nat),.int .i64 tn,.string ts]/\tk=t.k/\tp=t.p/\tn=t.n/\ts=jm9 t:=⟨_,_,_,_,rfl,rfl,rfl,rfl,rfl⟩
theorem jn0 {kk:Nat}(hk:q.kind L=kk) (E:PE p lb cap base L) (h:PM w p lb cap base N L q pv D) :
 Calls Tryz.prog 61 #[.pointer (some ⟨p,0,none⟩)] w fun e w'=>e= .returned (.int .i64 (kk:Nat))/\PM w' p lb cap base N L q pv D/\Kp p pv pv w w':=by
 refine(jpw (S:=q.S.row pv) hk (Ym E.len (by omega)) h.blk E.cap h.cw E.lbp).mono ?_;rintro _ B ⟨rfl,A⟩;exact⟨rfl,h.below E A,Fr.below' A (Ug (h.lt E))⟩
theorem jrN {kk:Nat}(hk:cOp (q.kind L)=kk) (E:PE p lb cap base L) (h:PM w p lb cap base N L q pv D) :
 Calls Tryz.prog 100 #[.pointer (some ⟨p,0,none⟩)] w fun e w'=>e= .returned (.int .i64 (kk:Nat))/\PM w' p lb cap base N L q pv D/\Kp p pv pv w w':=by
 subst hk;refine(jEb (S:=q.S.row pv) (kk:=q.kind L) rfl (Ym E.len (by omega)) h.blk E.cap h.cw E.lbp).mono ?_;rintro _ B ⟨rfl,A⟩;exact⟨rfl,h.below E A,Fr.below' A (Ug (h.lt E))⟩
theorem jwI {b:Bool}(hk:job (q.kind L)=b) (E:PE p lb cap base L) (h:PM w p lb cap base N L q pv D) :
 Calls Tryz.prog 130 #[.pointer (some ⟨p,0,none⟩)] w fun e w'=>e= .returned (.bool b)/\PM w' p lb cap base N L q pv D/\Kp p pv pv w w':=by
 subst hk;refine(jI3 (S:=q.S.row pv) (kk:=q.kind L) rfl (Ym E.len (by omega)) h.blk E.cap h.cw E.lbp).mono ?_;rintro _ B ⟨rfl,A⟩;exact⟨rfl,h.below E A,Fr.below' A (Ug (h.lt E))⟩
theorem jo9 {tk B:Nat}{C:Int}{ts:ByteArray}(A:cwV (q.word L)= .agg #[.int .i64 (tk:Nat),.int .i64 (B:Nat),.int .i64 C,.string ts]) (H:q.S.next<=900000) (E:PE p lb cap base L) (h:PM w p lb cap base N L q pv D) :
 Calls Tryz.prog 67 #[.pointer (some ⟨p,0,none⟩)] w fun e w'=>e= .returned (.agg #[.int .i64 (tk:Nat),.int .i64 (B:Nat),.int .i64 C,.string ts])/\PM w' p lb cap base N L q.take pv D/\Kp p pv pv w w':=by
 rw[<-A];refine(jxA (S:=q.S.row pv) (Ym E.len (by omega)) (show q.S.next<=_ by omega) h.blk E.cap h.cw E.lbp).mono ?_;rintro _ K ⟨rfl,I,F⟩;exact⟨rfl,h.step E I F,Fr.only F F.below.size⟩
theorem jxc {k tk B:Nat}{C:Int}{ts:ByteArray}(A:cwV (jm8 L k q.S)= .agg #[.int .i64 (tk:Nat),.int .i64 (B:Nat),.int .i64 C,.string ts]) (I:q.S.next<=900000) (E:PE p lb cap base L) (h:PM w p lb cap base N L q pv D) :
 Calls Tryz.prog 32 #[.pointer (some ⟨p,0,none⟩),.int .i64 k] w fun e w'=>e= .returned (.agg #[.int .i64 (tk:Nat),.int .i64 (B:Nat),.int .i64 C,.string ts])/\PM w' p lb cap base N L (q.want L k) pv D/\Kp p pv pv w w':=by
 rw[<-A];refine(jqI (S:=q.S.row pv) (k:=k) (Ym E.len (by omega)) (show q.S.next<=_ by omega) h.blk E.cap h.cw E.lbp).mono ?_;rintro _ K ⟨rfl,H,F⟩;rw[jqo]at H;exact⟨rfl,h.step E H F,Fr.only F F.below.size⟩
theorem jqa {k:Nat}(A:q.S.next<=900000) (E:PE p lb cap base L) (h:PM w p lb cap base N L q pv D) :
 Calls Tryz.prog 32 #[.pointer (some ⟨p,0,none⟩),.int .i64 k] w fun e w'=>(∃a b c d,e= .returned (.agg #[.int .i64 a,.int .i64 b,.int .i64 c,.string d]))/\PM w' p lb cap base N L (q.want L k) pv D/\Kp p pv pv w w':=by
 obtain⟨tk,I,K,ts,B,_⟩:=joY (jm8 L k q.S);refine(jxc B A E h).mono ?_;rintro _ H ⟨rfl,C,F⟩;exact⟨⟨_,_,_,_,rfl⟩,C,F⟩
theorem jwF {k tk B:Nat}{C:Int}{ts:ByteArray}(A:cwV (q.begW L N k)= .agg #[.int .i64 (tk:Nat),.int .i64 (B:Nat),.int .i64 C,.string ts]) (H:q.fine) (E:PE p lb cap base L) (h:PM w p lb cap base N L q pv D) :
 Calls Tryz.prog 97 #[.pointer (some ⟨p,0,none⟩),.int .i64 k] w fun e w'=>e= .returned (.agg #[.int .i64 (tk:Nat),.int .i64 (B:Nat),.int .i64 C,.string ts])/\PM w' p lb cap base N L (q.beg L N k) pv D/\Kp p pv pv w w':=by
 rw[<-A];obtain⟨U,W,R,O⟩:=H;refine(jmd (S:=q.S.row pv) (k:=k) (Ym E.len (by omega)) (show q.S.next<=_ by omega) (show _<=q.S.opn by omega) (show q.S.opn<=_ by omega) h.blk E.cap h.cw E.lbp).mono ?_;rintro _ K ⟨rfl,I,F⟩;rw[jAq,jAo]at *;exact⟨rfl,h.step E I F,Fr.only F F.below.size⟩
theorem jtQ (B:q.fine) (E:PE p lb cap base L) (h:PM w p lb cap base N L q pv D) :
 Calls Tryz.prog 98 #[.pointer (some ⟨p,0,none⟩)] w fun e w'=>(∃u,e= .returned u)/\PM w' p lb cap base N L (q.finish L) pv D/\Kp p pv pv w w':=by
 obtain⟨O,R,K,I⟩:=B;refine(jtP (S:=q.S.row pv) (Ym E.len (by omega)) (show q.S.next<=_ by omega) (show _<=q.S.opn by omega) (show q.S.opn<=_ by omega) h.blk E.cap h.cw E.lbp).mono ?_;rintro _ H ⟨F,C,A⟩;rw[jv9]at C;exact⟨F,h.step E C A,Fr.only A A.below.size⟩
theorem jGI {e:Int}(E:PE p lb cap base L) (h:PM w p lb cap base N L q pv D) :
 Calls Tryz.prog 66 #[.pointer (some ⟨p,0,none⟩),.int .i64 e] w fun r w'=>(∃u,r= .returned u)/\PM w' p lb cap base N L (q.fail L e) pv D/\Kp p pv pv w w':=by
 refine(fail_any (S:=q.S.row pv) (e:=e) (Ym E.len (by omega)) h.blk E.cap h.cw E.lbp).mono ?_;rintro _ F ⟨C,B,A⟩;rw[jGH]at B;exact⟨C,h.step E B A,Fr.only A A.below.size⟩
theorem jye {x:Int}(C: -1<=x) (F:x<=100000) (A:q.fine) (E:PE p lb cap base L) (h:PM w p lb cap base N L q pv D) :
 Calls Tryz.prog 131 #[.pointer (some ⟨p,0,none⟩),.int .i64 x] w fun e w'=>e= .returned (.int .i64 (joO q.ps x:Nat))/\PM w' p lb cap base N L q pv D/\Kp p pv pv w w':=by
 obtain⟨vs,H,K⟩:=h.ps;refine(jDQ (S:=q.S.row pv) (by have:=A.2.2.2;omega) C (by omega) h.blk H).mono ?_;rintro _ I ⟨rfl,B⟩;exact⟨rfl,h.below E B,Fr.below' B (Ug (h.lt E))⟩
def NmR (w:World) (base:Nat) (row:Option Nat) (D:Nat->Prop) (nv:Value) (ns:List ByteArray):Prop:=w.ownsRow base 9 1 nv ns.length (ns.map Value.string)/\∀b,nv.ownBlock=some b->row≠some b/\¬D b
theorem NmR.fr {r A:Option Nat}{E:Value}{ns:List ByteArray}(h:NmR w base r D E ns) (C:Fr p r A w w') (B:p<base):NmR w' base A D E ns:=⟨(C.own h.1 B (fun b hb=>(h.2 b hb).1)).1,fun b hb=>⟨(C.own h.1 B (fun b hb=>(h.2 b hb).1)).2 b hb,(h.2 b hb).2⟩⟩
theorem jvB {B:Value}{ns:List ByteArray}(h:PM w p lb cap base N L q pv D) (A:w'.ownsRow w.heap.size 9 1 B ns.length (ns.map Value.string)):NmR w' base pv.ownBlock D B ns:=
 ⟨⟨A.1,A.2.imp id (fun⟨g,c,cur,h1,h2,h3⟩=>⟨g,c,cur,h1,Ym h.bs h2,h3⟩)⟩,fun b hb=>⟨h.row b (A.lt b hb).1,fun hd=>by have:=h.dl b hd;have:=(A.lt b hb).1;omega⟩⟩
theorem parM {q1:Q}{ns:List ByteArray}(he:q.par L=(q1,ns)) (I:q.S.next<=800000) (E:PE p lb cap base L) (h:PM w p lb cap base N L q pv D) :
 Calls Tryz.prog 86 #[.pointer (some ⟨p,0,none⟩)] w fun e w'=>∃a c,e= .returned (.slice a ns.length c)/\PM w' p lb cap base N L q1 pv D/\NmR w' base pv.ownBlock D (.slice a ns.length c) ns/\Kp p pv pv w w':=by
 refine(jyi (S:=q.S.row pv) (Ym E.len (by omega)) (show q.S.next<=_ by omega) h.blk E.cap h.cw E.lbp).mono ?_;rintro _ R ⟨U,S',O,rfl,B,H,A,C,hs,_⟩;rw[jqo,jA8,jvk]at B;unfold Q.par at he;injection B with B h2
 injection he with h3 h4
 subst h3 B;rw[h2]at h4;subst h4;have K:=jvB h A;obtain⟨a,c,F⟩:=joG A;subst F;exact⟨a,c,rfl,h.step E H C,K,Fr.only C hs⟩
theorem fnmM {q1:Q}{ns:List ByteArray}(he:q.fnm L=(q1,ns)) (I:q.S.next<=800000) (E:PE p lb cap base L) (h:PM w p lb cap base N L q pv D) :
 Calls Tryz.prog 83 #[.pointer (some ⟨p,0,none⟩)] w fun e w'=>∃a c,e= .returned (.slice a ns.length c)/\PM w' p lb cap base N L q1 pv D/\NmR w' base pv.ownBlock D (.slice a ns.length c) ns/\Kp p pv pv w w':=by
 refine(jGi (S:=q.S.row pv) (Ym E.len (by omega)) (show q.S.next<=_ by omega) h.blk E.cap h.cw E.lbp).mono ?_;rintro _ R ⟨U,S',O,rfl,B,H,A,C,hs,_⟩;rw[jGp]at B;unfold Q.fnm at he;injection B with B h2
 injection he with h3 h4
 subst h3 B;rw[h2]at h4;subst h4;have K:=jvB h A;obtain⟨a,c,F⟩:=joG A;subst F;exact⟨a,c,rfl,h.step E H C,K,Fr.only C hs⟩
theorem tpmM {q1:Q}{ns:List ByteArray}(he:q.tpm L N=(q1,ns)) (O:q.S.next<=800000) (F: -100000<=q.S.opn) (C:q.S.opn<=100000) (E:PE p lb cap base L) (h:PM w p lb cap base N L q pv D) :
 Calls Tryz.prog 84 #[.pointer (some ⟨p,0,none⟩)] w fun e w'=>∃a c,e= .returned (.slice a ns.length c)/\PM w' p lb cap base N L q1 pv D/\NmR w' base pv.ownBlock D (.slice a ns.length c) ns/\Kp p pv pv w w':=by
 refine(jBp (S:=q.S.row pv) (Ym E.len (by omega)) (show q.S.next<=_ by omega) F C h.blk E.cap h.cw E.lbp).mono ?_;rintro _ W ⟨Y,S',U,rfl,B,K,A,H,hs,_⟩;rw[jBE]at B;unfold Q.tpm at he;injection B with B h2
 injection he with h3 h4
 subst h3 B;rw[h2]at h4;subst h4;have R:=jvB h A;obtain⟨a,c,I⟩:=joG A;subst I;exact⟨a,c,rfl,h.step E K H,R,Fr.only H hs⟩
def KdR (w:World) (base:Nat) (row:Option Nat) (D:Nat->Prop) (kv:Value) (ks:List Int):Prop:=w.ownsRow base 3 1 kv ks.length (ks.map (Value.int .i64))/\∀b,kv.ownBlock=some b->row≠some b/\¬D b
theorem KdR.fr {r A:Option Nat}{E:Value}{ns:List Int}(h:KdR w base r D E ns) (C:Fr p r A w w') (B:p<base):KdR w' base A D E ns:=⟨(C.own h.1 B (fun b hb=>(h.2 b hb).1)).1,fun b hb=>⟨(C.own h.1 B (fun b hb=>(h.2 b hb).1)).2 b hb,(h.2 b hb).2⟩⟩
theorem KdR.lower {A:Nat}{r:Option Nat}{kv:Value}{ks:List Int}(h:KdR w A r D kv ks) (B:base<=A):KdR w base r D kv ks:=⟨⟨h.1.1,h.1.2.imp id (fun⟨g,c,cur,h1,h2,h3⟩=>⟨g,c,cur,h1,Ym B h2,h3⟩)⟩,h.2⟩
theorem jqg (w:World) (base:Nat) (row:Option Nat) (D:Nat->Prop):NmR w base row D (.slice none 0 0) []:=⟨Uk _ _ _ _,fun b hb=>by cases hb⟩
theorem jvK (w:World) (base:Nat) (row:Option Nat) (D:Nat->Prop):KdR w base row D (.slice none 0 0) []:=⟨Uk _ _ _ _,fun b hb=>by cases hb⟩
theorem jqi (h:PM w p lb cap base N L q pv D) {A:Nat}(C:A<=w.heap.size) (ks:List Int) (I:ks.length<=100) {n B:Nat}(H:n=ks.length) (F:B=w.heap.size) {o:Obj}(E:o= .cells (ks.map (Value.int .i64)).toArray 3):KdR (w.alloc o) A pv.ownBlock D (.slice (some ⟨B,0,none⟩) n n) ks:=by
 subst H F E;refine⟨?_,fun b hb=>?_⟩
 .have:=jrM (xs:=ks.map (Value.int .i64)) (base:=A) (heap_alloc_new w (.cells (ks.map (Value.int .i64)).toArray 3)) C (by simp[maxLen];omega)
  simpa using this
 .have:w.heap.size=b:=by simpa[Value.ownBlock] using hb
  exact⟨h.row b (by omega),fun hd=>by have:=h.dl b hd;omega⟩
theorem jyA (h:PM w p lb cap base N L q pv D) (ks:List ByteArray) (F:ks.length<=100) {n B:Nat}(E:n=ks.length) (C:B=w.heap.size) {o:Obj}(A:o= .cells (ks.map Value.string).toArray 9):NmR (w.alloc o) base pv.ownBlock D (.slice (some ⟨B,0,none⟩) n n) ks:=by
 subst E C A;refine⟨?_,fun b hb=>?_⟩
 .have:=jrM (xs:=ks.map Value.string) (base:=base) (heap_alloc_new w (.cells (ks.map Value.string).toArray 9)) h.bs (by simp[maxLen];omega)
  simpa using this
 .have:w.heap.size=b:=by simpa[Value.ownBlock] using hb
  exact⟨h.row b (by omega),fun hd=>by have:=h.dl b hd;omega⟩
def DB (D:Nat->Prop) (kv:Value):Nat->Prop:=fun b=>D b\/kv.ownBlock=some b
theorem jnZ.lt {vs:List (Value × Value)}{ps:List CP}(h:jnZ w base pv ps vs):∀v ∈ vs,∀b,(v.1.ownBlock=some b\/v.2.ownBlock=some b)->b<w.heap.size:=by
 intro v C b A;obtain⟨i,hi,rfl⟩:=List.getElem_of_mem C;have B:=h.rows i (by rw[<-h.len];exact hi) hi;rcases A with A|A
 .exact(B.names.lt b A).2
 .exact(B.kids.lt b A).2
theorem PM.alD (h:PM w p lb cap base N L q pv D) (E:PE p lb cap base L) (o:Obj) {B n c:Nat}(H:B=w.heap.size):PM (w.alloc o) p lb cap base N L q pv (DB D (.slice (some ⟨B,0,none⟩) n c)):=by
 subst H;have C:=h.al E o;obtain⟨vs,F,I⟩:=h.ps;refine⟨C.blk,⟨vs,F.below (jB.alloc jN _),fun b A v hvm=>?_⟩,C.cw,C.bs,fun b A=>?_⟩
 .rcases A with A|A
  .exact I b A v hvm
  .have A:w.heap.size=b:=by simpa[Value.ownBlock] using A
   exact⟨fun h2=>by have:=F.lt v hvm b (.inl h2);omega,fun h2=>by have:=F.lt v hvm b (.inr h2);omega⟩
 .rw[Ya]
  rcases A with A|A
  .have:=h.dl b A;omega
  .have A:w.heap.size=b:=by simpa[Value.ownBlock] using A
   omega
theorem PM.app {C n:Nat}{kv I:Value}{ks:List Int}{o:Obj}{xs:List Value}{A:World}(h:PM w p lb cap base N L q pv (DB D kv)) (E:PE p lb cap base L) (hk:KdR w C pv.ownBlock D kv ks) (Z:base<=C) (W:C<=w.heap.size)
 (O:(w.alloc o).grownBy A kv.ownBlock) (K:A.ownsRow C 3 1 I n xs) (B:I.ownBlock=kv.ownBlock\/I.ownBlock=some (w.alloc o).heap.size) :
 PM A p lb cap base N L q pv (DB D I)/\(∀b,I.ownBlock=some b->pv.ownBlock≠some b/\¬D b)/\(∀b,b<w.heap.size->kv.ownBlock≠some b->A.heap[b]? =w.heap[b]?)/\w.heap.size<=A.heap.size/\Below C w A:=by
 have R:∀b,b<w.heap.size->kv.ownBlock≠some b->A.heap[b]? =w.heap[b]?:=fun b h1 h2=>by
  rw[O.block b (by rw[Ya];omega) (fun h=>h2 h.symm),Kq _ _ _ h1]
 have hs:=O.size;rw[Ya]at hs B;have h0:=h.lt E;have h7:=E.pb;have h6:=E.lbp;have h4:=h.bs;have h5:=hk.1.lt;have F:Below C w A:=(jB.alloc W o).grown O (by rw[Ya];omega) (jh7 hk.1);obtain⟨vs,H,U⟩:=h.ps;refine⟨⟨jng h.blk F (by omega),⟨vs,⟨joh H.own fun b hb=>R b (H.own.lt b hb).2 fun h2=>(hk.2 b h2).1 hb,H.len,fun i h1 h2=>?_⟩,fun b hb v hvm=>?_⟩,h.cw.below F (by omega),by omega,fun b hb=>?_⟩,fun b hb=>?_,R,by omega,F⟩
 .have hr:=H.rows i h1 h2
  have Y:vs[i] ∈ vs:=List.getElem_mem h2;refine⟨joh hr.names fun b hb=>R b (hr.names.lt b hb).2 fun h3=>(U b (.inr h3) _ Y).1 hb,joh hr.kids fun b hb=>R b (hr.kids.lt b hb).2 fun h3=>(U b (.inr h3) _ Y).2 hb,hr.n1,hr.n2⟩
 .rcases hb with hb|hb
  .exact U b (.inl hb) v hvm
  .rcases B with h3|h3
   .exact U b (.inr (h3 ▸ hb)) v hvm
   .rw[h3]at hb
    cases hb;exact⟨fun h2=>by have:=H.lt v hvm _ (.inl h2);omega,fun h2=>by have:=H.lt v hvm _ (.inr h2);omega⟩
 .rcases hb with hb|hb
  .have:=h.dl b (.inl hb);omega
  .exact(K.lt b hb).2
 .rcases B with h3|h3
  .exact hk.2 b (h3 ▸ hb)
  .rw[h3]at hb
   cases hb;exact⟨h.row _ (by omega),fun hd=>by have:=h.dl _ (.inl hd);omega⟩
theorem jpt {k a wd:Nat}{nm:Int}{ns:List ByteArray}{ks:List Int}{F kv:Value}(K:q.fine) (E:PE p lb cap base L) (h:PM w p lb cap base N L q pv D) (H:NmR w base pv.ownBlock D F ns) (hk:KdR w base pv.ownBlock D kv ks) :
 Calls Tryz.prog 85 #[.pointer (some ⟨p,0,none⟩),.agg #[.int .i64 (k:Nat),.int .i64 (a:Nat),.int .i64 (wd:Nat),.int .i64 nm,F,kv]] w fun e w'=>e= .returned (.int .i64 (q.ps.length:Nat))/\∃pv',PM w' p lb cap base N L (q.add ⟨k,a,wd,nm,ns,ks⟩) pv' D/\Kp p pv pv' w w':=by
 obtain⟨vs,O,R⟩:=h.ps;refine(jAw (S:=q.S.row pv) (q:=⟨k,a,wd,nm,ns,ks⟩) (v:=(F,kv)) (by have:=K.2.2.2;omega) h.blk E.pb h.bs O ⟨H.1,hk.1,fun b A=>(H.2 b A).1,fun b A=>(hk.2 b A).1⟩).mono ?_;rintro _ U ⟨rfl,pv',A,I,C⟩;refine⟨rfl,pv',⟨A,⟨_,I,fun b A v B=>?_⟩,h.cw.below C.below E.lbp,Ym h.bs C.size,fun b A=>Yj (h.dl b A) C.size⟩,C⟩;rcases Yq.1 B with B|B
 .exact R b A v B
 .simp at B
  subst B;exact⟨fun h2=>(H.2 b h2).2 A,fun h2=>(hk.2 b h2).2 A⟩
theorem jsJ {k tk F:Nat}{l r K:Int}{ts:ByteArray}(I:q.fine) (E:PE p lb cap base L) (h:PM w p lb cap base N L q pv D) :
 Calls Tryz.prog 88 #[.pointer (some ⟨p,0,none⟩),.int .i64 (k:Nat),.int .i64 l,.agg #[.int .i64 (tk:Nat),.int .i64 (F:Nat),.int .i64 K,.string ts],.int .i64 r] w fun e w'=>e= .returned (.int .i64 (q.ps.length:Nat))/\∃pv',PM w' p lb cap base N L (q.add ⟨k,F,tk,0,[],[l,r]⟩) pv' D/\Kp p pv pv' w w':=by
 obtain⟨vs,O,R⟩:=h.ps;refine(jIT (S:=q.S.row pv) (by have:=I.2.2.2;omega) h.blk E.pb h.bs O).mono ?_;rintro _ U ⟨rfl,pv',B,H,C⟩;refine⟨rfl,pv',⟨B,⟨_,H,fun b B v A=>?_⟩,h.cw.below C.below E.lbp,Ym h.bs C.size,fun b B=>Yj (h.dl b B) C.size⟩,C⟩;rcases Yq.1 A with A|A
 .exact R b B v A
 .simp at A
  subst A;refine⟨fun h2=>(by cases h2),fun h2=>?_⟩;have W:w.heap.size+1=b:=by simpa[Value.ownBlock] using h2
  have:=h.dl b B;omega
end
def Wk (p lb cap base:Nat) (N:Int) (L:List Tok) (n F:Nat) (args:Array Value) (m:Md):Prop:=
 ∀(w:World) (q:Q) (pv:Value) (x:Int) (q':Q) (D:Nat->Prop),pr L N n m q=some (x,q')->PM w p lb cap base N L q pv D->
  Calls Tryz.prog F args w fun e w'=>e= .returned (.int .i64 x)/\∃pv',PM w' p lb cap base N L q' pv' D/\Kp p pv pv' w w'
theorem Wk.go {p lb cap base:Nat}{N:Int}{L:List Tok}{n F:Nat}{args:Array Value}{m:Md}(h:Wk p lb cap base N L n F args m) {w:World}{q:Q}{pv:Value}{x:Int}{q':Q}{D:Nat->Prop}(A:pr L N n m q=some (x,q')) (B:PM w p lb cap base N L q pv D) :
 Calls Tryz.prog F args w fun e w'=>e= .returned (.int .i64 x)/\∃pv',PM w' p lb cap base N L q' pv' D/\Kp p pv pv' w w':=h w q pv x q' D A B
section
variable {p lb cap base n:Nat}{N:Int}{L:List Tok}
abbrev WkM (p lb cap base:Nat) (N:Int) (L:List Tok) (n F:Nat) (m:Md):Prop:=Wk p lb cap base N L n F #[.pointer (some ⟨p,0,none⟩)] m
set_option maxRecDepth 100000 in
theorem jGJ (E:PE p lb cap base L) (h1:WkM p lb cap base N L n 62 .lett) (h2:WkM p lb cap base N L n 63 .choice) (h3:WkM p lb cap base N L n 64 .func) (h4:WkM p lb cap base N L n 65 .seq):WkM p lb cap base N L (n+1) 31 .expr:=by
 intro w q pv x q' D Y Z;obtain⟨h0,k,hk,A⟩:=jop Y;cases hk;simp only[jm1]at A
 obtain⟨kk,U⟩:∃kk,q.kind L=kk:=⟨_,rfl⟩
 rw[U]at A;have O:=jH U;have R:=jH Z;clear U Y Z h0
 by_cases k3:kk=3
 .subst k3
  rw[if_pos rfl]at A;have F:=jH A;clear A
  go_enter Tryz.func31,Tryz.ntmps31
  go_wp2_with (first
   |(go_at_call 61;refine(jn0 O.o E R.o).mono ?_;rintro _ w1 ⟨rfl,K,H⟩)
   |(go_at_call 62;refine(h1.go F.o K).mono ?_;rintro _ w2 ⟨rfl,B,I,C⟩))
  go_ret;exact⟨rfl,B,I,H.trans C⟩
 rw[if_neg k3]at A
 by_cases k6:kk=6
 .subst k6
  rw[if_pos rfl]at A;have F:=jH A;clear A k3
  go_enter Tryz.func31,Tryz.ntmps31
  go_wp2_with (first
   |(go_at_call 61;refine(jn0 O.o E R.o).mono ?_;rintro _ w1 ⟨rfl,K,H⟩)
   |(go_at_call 63;refine(h2.go F.o K).mono ?_;rintro _ w2 ⟨rfl,B,I,C⟩))
  go_ret;exact⟨rfl,B,I,H.trans C⟩
 rw[if_neg k6]at A
 by_cases W:kk=9
 .subst W
  rw[if_pos rfl]at A;have F:=jH A;clear A k3 k6
  go_enter Tryz.func31,Tryz.ntmps31
  go_wp2_with (first
   |(go_at_call 61;refine(jn0 O.o E R.o).mono ?_;rintro _ w1 ⟨rfl,K,H⟩)
   |(go_at_call 64;refine(h3.go F.o K).mono ?_;rintro _ w2 ⟨rfl,B,I,C⟩))
  go_ret;exact⟨rfl,B,I,H.trans C⟩
 rw[if_neg W]at A;have F:=jH A;have b1:=jnE k3;have b2:=jnE k6;have b3:=jnE W;clear A k3 k6 W
 go_enter Tryz.func31,Tryz.ntmps31
 go_wp2_with (first
  |(go_at_call 61;refine(jn0 O.o E R.o).mono ?_;rintro _ w1 ⟨rfl,K,H⟩)
  |(go_at_call 65;refine(h4.go F.o K).mono ?_;rintro _ w2 ⟨rfl,B,I,C⟩))
 go_ret;exact⟨rfl,B,I,H.trans C⟩
set_option maxRecDepth 100000 in
theorem jIq (E:PE p lb cap base L) (he:WkM p lb cap base N L n 31 .expr):WkM p lb cap base N L (n+1) 63 .choice:=by
 intro w q pv x q' D W Y;obtain⟨h7,k,hk,A⟩:=jop W;cases hk;simp only[jm1]at A;obtain⟨a,q1,e1,f1,A⟩:=jnd A;obtain⟨b,q2,e2,f2,A⟩:=jnd A;obtain⟨c,q3,e3,f3,A⟩:=jnd A;obtain⟨_,rfl,rfl⟩:=jnR A;obtain⟨tk,tp,tn,ts,h0,h1,h2,-,-⟩:=joY (q.word L);rw[<-h1,<-h2];have k5:=jH h0;have q7:=jH Y;have H1:=jH e1;have H2:=jH e2;have H3:=jH e3;have F0:q.S.next<=900000:=by have:=h7.1;omega
 have F1:q1.S.next<=900000:=by have:=f1.1;omega
 have F2:q2.S.next<=900000:=by have:=f2.1;omega
 clear h0 h1 h2 e1 e2 e3 A W Y h7 f1 f2
 go_enter Tryz.func63,Tryz.ntmps63
 go_wp2_with (first
  |(go_at_call 67;refine(jo9 k5.o F0 E q7.o).mono ?_;rintro _ w1 ⟨rfl,B,k9⟩;have H:=Nat.ne_of_gt (B.lt E);have r2:=B.row _ jN)
  |(go_at_call 31;refine(he.go H1.o (B.al E _)).mono ?_;rintro _ w2 ⟨rfl,r5,h9,O⟩;have q5:=k9.trans ((Fr.al B E _).trans O);obtain⟨Z,r3⟩:=O.loc (jnC w1 _) H r2;clear B H1)
  |(go_at_call 32;refine(jqa F1 E h9).mono ?_;rintro _ w3 ⟨⟨y0,y1,y2,y3,rfl⟩,R,h3⟩;obtain⟨h4,q6⟩:=h3.loc Z H r3;have r1:=q5.trans h3;clear h9)
  |(go_at_call 31;refine(he.go H2.o R).mono ?_;rintro _ w4 ⟨rfl,r8,k1,h6⟩;obtain⟨K,q8⟩:=h6.loc h4 H q6;have k8:=r1.trans h6;clear R H2)
  |(go_at_call 32;refine(jqa F2 E k1).mono ?_;rintro _ w5 ⟨⟨z0,z1,z2,z3,rfl⟩,h5,U⟩;obtain⟨I,k7⟩:=U.loc K H q8;have r4:=k8.trans U;clear k1)
  |(go_at_call 31;refine(he.go H3.o h5).mono ?_;rintro _ w6 ⟨rfl,r6,F,h8⟩;obtain⟨C,r7⟩:=h8.loc I H k7;have q4:=r4.trans h8;have c0:=jmp C 0 rfl;have c1:=jmp C 1 rfl;have d0:=jol C 0 rfl;have d1:=jol C 1 rfl;clear h5 H3 Z h4 K I C)
  |(go_at_call 85;refine(jpt (k:=11) (a:=tp) (wd:=tk) (nm:=0) (ns:=[]) (ks:=[a,b,c]) f3 E (F.al E _) (jqg _ _ _ _) (jqi F F.bs [a,b,c] (by simp) rfl rfl rfl)).mono ?_;rintro _ w7 ⟨rfl,k2,k4,q9⟩))
 go_ret;exact⟨rfl,k2,k4,q4.trans ((Fr.al F E _).trans q9)⟩
end
theorem jvm (L:List Tok):∀(f:Nat) (S:PF) (ns:List ByteArray),(jnI L f S ns).1.next<=S.next+f
 |0,S,ns=>jN
 |f+1,S,ns=>by
  rw[jnI]
  split
  .have:=jvm L f S.take (ns ++[jm9 (jE L S.next)])
   have h:S.take.next=S.next+1:=rfl;omega
  .show S.next<=_;omega
theorem jxk (L:List Tok) {M:Nat}(A:L.length<=M):∀(f:Nat) (S:PF) (ns:List ByteArray) (k:Nat),S.next<=M+k->(tupL L f S ns).1.next<=M+k+2*f
 |0,S,ns,k,h=>by simpa[tupL] using h
 |f+1,S,ns,k,h=>by
  rw[tupL]
  split
  .have h1:S.take.next<=M+(k+1):=by show S.next+1<=_;omega
   have B:=jpu (L:=L) (k:=2) (M:=M+(k+1)) (S:=S.take) (by omega) h1;have:=jxk L A f (S.take.want L 2) (ns ++[jm9 (jm8 L 2 S.take)]) (k+2) (by omega);omega
  .show S.next<=_;omega
variable {L:List Tok}{q:Q}
theorem jD4 (A:L.length<=1000) (h:q.S.next<=600000):(q.par L).1.S.next<=700000:=by
 have B:=jpu (L:=L) (k:=2) (M:=600000) (S:=q.S) (by omega) h;have C:=jvm L 3 (q.S.want L 2) [jm9 (jm8 L 2 q.S)];show(jnI L 3 (q.S.want L 2) [jm9 (jm8 L 2 q.S)]).1.next<=_;omega
theorem jGo (B:L.length<=1000) (h:q.S.next<=600000):(q.fnm L).1.S.next<=700000:=by
 have A:=jpu (L:=L) (k:=2) (M:=600000) (S:=q.S) (by omega) h;have E:=jpu (L:=L) (k:=2) (M:=600001) (S:=q.S.want L 2) (by omega) A;have C:=jvm L 3 ((q.S.want L 2).want L 2) [jm9 (jm8 L 2 (q.S.want L 2))];show(jnI L 3 ((q.S.want L 2).want L 2) [jm9 (jm8 L 2 (q.S.want L 2))]).1.next<=_;omega
theorem jBD {N:Int}(A:L.length<=1000) (h:q.S.next<=600000):(q.tpm L N).1.S.next<=700000:=by
 have C:=jwE (L:=L) (N:=N) (k:=23) (M:=600000) (S:=q.S) (by omega) h;have B:=jpu (L:=L) (k:=2) (M:=600001) (S:=q.S.begin L N 23) (by omega) C;have E:=jpu (L:=L) (k:=25) (M:=600002) (S:=(q.S.begin L N 23).want L 2) (by omega) B;have H:=jpu (L:=L) (k:=2) (M:=600003) (S:=((q.S.begin L N 23).want L 2).want L 25) (by omega) E;have F:=jxk L (M:=600004) (by omega) 4 ((((q.S.begin L N 23).want L 2).want L 25).want L 2) [jm9 (jm8 L 2 (q.S.begin L N 23)),jm9 (jm8 L 2 (((q.S.begin L N 23).want L 2).want L 25))] 0 (by omega);have I:=jpu (L:=L) (k:=24) (M:=600012) (S:=(tpB L N q.S).1) (by omega) (by unfold tpB;omega);show((tpB L N q.S).1.want L 24).next<=_;omega
section
variable {p lb cap base n:Nat}{N:Int}{L:List Tok}
set_option maxRecDepth 100000 in
theorem jGj (E:PE p lb cap base L) (he:WkM p lb cap base N L n 31 .expr):WkM p lb cap base N L (n+1) 64 .func:=by
 intro w q pv x q' D W Y;obtain⟨H,k,hk,A⟩:=jop W;cases hk;simp only[jm1]at A
 obtain⟨q1,ns,O⟩:∃q1 ns,q.take.par L=(q1,ns):=⟨_,_,rfl⟩
 rw[O]at A;obtain⟨b,q2,e1,f1,A⟩:=jnd A;obtain⟨_,rfl,rfl⟩:=jnR A;obtain⟨tk,tp,tn,ts,h0,h1,h2,-,-⟩:=joY (q.word L);rw[<-h1,<-h2];have h8:=jH h0;have k7:=jH Y;have HZ:=jH O;have H1:=jH e1;have F0:q.S.next<=900000:=by have:=H.1;omega
 have F1:q.take.S.next<=800000:=by have:=H.1;show q.S.next+1<=_;omega
 have F2:q1.S.next<=900000:=by
  have:=jD4 (L:=L) (q:=q.take) E.len (by have:=H.1;show q.S.next+1<=_;omega);rw[O]at this;simp only at this;omega
 clear h0 h1 h2 e1 A W Y H O
 go_enter Tryz.func64,Tryz.ntmps64
 go_wp2_with (first
  |(go_at_call 67;refine(jo9 h8.o F0 E k7.o).mono ?_;rintro _ w1 ⟨rfl,C,k2⟩;have np:=Nat.ne_of_gt (C.lt E);have q5:=C.row _ jN)
  |(go_at_call 86;refine(parM HZ.o F1 E (C.al E _)).mono ?_;rintro _ w2 ⟨na,nc,rfl,h4,h5,R⟩;have k4:=k2.trans ((Fr.al C E _).trans R);obtain⟨Z,q6⟩:=R.loc (jnC w1 _) np q5;clear C)
  |(go_at_call 32;refine(jqa F2 E h4).mono ?_;rintro _ w3 ⟨⟨y0,y1,y2,y3,rfl⟩,U,I⟩;obtain⟨h3,k5⟩:=I.loc Z np q6;have k1:=h5.fr I E.pb;have q4:=k4.trans I;clear h4)
  |(go_at_call 31;refine(he.go H1.o U).mono ?_;rintro _ w4 ⟨rfl,q7,F,K⟩;obtain⟨B,q8⟩:=K.loc h3 np k5;have k8:=k1.fr K E.pb;have h9:=q4.trans K;have c0:=jmp B 0 rfl;have c1:=jmp B 1 rfl;have d0:=jol B 0 rfl;have d1:=jol B 1 rfl;clear U Z h3 B)
  |(go_at_call 85;refine(jpt (k:=12) (a:=tp) (wd:=tk) (nm:=0) (ns:=ns) (ks:=[b]) f1 E (F.al E _) (k8.fr (Fr.al F E _) E.pb) (jqi F F.bs [b] (by simp) rfl rfl rfl)).mono ?_;rintro _ w7 ⟨rfl,h6,h7,k9⟩))
 go_ret;exact⟨rfl,h6,h7,h9.trans ((Fr.al F E _).trans k9)⟩
set_option maxRecDepth 100000 in
theorem jCt (E:PE p lb cap base L) (h1:WkM p lb cap base N L n 87 .cmp) (h2:WkM p lb cap base N L n 31 .expr):WkM p lb cap base N L (n+1) 65 .seq:=by
 intro w q pv x q' D W Y;obtain⟨k2,k,hk,A⟩:=jop W;cases hk;simp only[jm1]at A;obtain⟨a,q1,e1,f1,A⟩:=jnd A;have H:=jH Y;have H1:=jH e1
 obtain⟨kk,U⟩:∃kk,q1.kind L=kk:=⟨_,rfl⟩
 rw[U]at A;have h4:=jH U;clear W Y k2 e1 U
 by_cases hk:kk=26
 .subst hk
  rw[if_neg (by simp)]at A;obtain⟨b,q2,e2,f2,A⟩:=jnd A;obtain⟨_,rfl,rfl⟩:=jnR A;obtain⟨tk,tp,tn,ts,h0,g1,g2,-,-⟩:=joY (q1.word L);rw[<-g1,<-g2];have h5:=jH h0;have H2:=jH e2;have F1:q1.S.next<=900000:=by have:=f1.1;omega
  clear h0 g1 g2 e2 A f1
  go_enter Tryz.func65,Tryz.ntmps65
  go_wp2_with (first
   |(go_at_call 87;refine(h1.go H1.o H.o).mono ?_;rintro _ w1 ⟨rfl,Z,F,O⟩;clear H)
   |(go_at_call 61;refine(jn0 h4.o E F).mono ?_;rintro _ w2 ⟨rfl,I,K⟩;have R:=O.trans K;clear F)
   |(go_at_call 67;refine(jo9 h5.o F1 E I).mono ?_;rintro _ w3 ⟨rfl,C,h8⟩;have np:=Nat.ne_of_gt (C.lt E);have k1:=C.row _ jN;have k4:=R.trans h8;clear I)
   |(go_at_call 31;refine(h2.go H2.o (C.al E _)).mono ?_;rintro _ w4 ⟨rfl,k8,k7,h3⟩;obtain⟨B,k9⟩:=h3.loc (jnC w3 _) np k1;have h7:=k4.trans ((Fr.al C E _).trans h3);have c0:=jmp B 0 rfl;have c1:=jmp B 1 rfl;have c2:=jmp B 2 rfl;have c3:=jmp B 3 rfl;clear C B)
   |(go_at_call 88;refine(jsJ (k:=18) f2 E k7).mono ?_;rintro _ w5 ⟨rfl,k5,h9,h6⟩))
  go_ret;exact⟨rfl,k5,h9,h7.trans h6⟩
 .rw[if_pos (by simpa using hk)]at A
  obtain⟨_,rfl,rfl⟩:=joi A;have hb:=jnE hk;clear A hk
  go_enter Tryz.func65,Tryz.ntmps65
  go_wp2_with (first
   |(go_at_call 87;refine(h1.go H1.o H.o).mono ?_;rintro _ w1 ⟨rfl,Z,F,O⟩;clear H)
   |(go_at_call 61;refine(jn0 h4.o E F).mono ?_;rintro _ w2 ⟨rfl,I,K⟩;have R:=O.trans K;clear F))
  go_ret;exact⟨rfl,Z,I,R⟩
set_option maxRecDepth 100000 in
theorem jIi (E:PE p lb cap base L) (W:WkM p lb cap base N L n 99 .sum):WkM p lb cap base N L (n+1) 87 .cmp:=by
 intro w q pv x q' D Y Z;obtain⟨k2,k,hk,A⟩:=jop Y;cases hk;simp only[jm1]at A;obtain⟨a,q1,e1,f1,A⟩:=jnd A;have H:=jH Z;have H1:=jH e1
 obtain⟨kk,U⟩:∃kk,cOp (q1.kind L)=kk:=⟨_,rfl⟩
 rw[U]at A;have h4:=jH U;clear Y Z k2 e1 U
 by_cases hk:kk=17
 .subst hk
  rw[if_neg (by simp)]at A;obtain⟨b,q2,e2,f2,A⟩:=jnd A;obtain⟨_,rfl,rfl⟩:=jnR A;obtain⟨tk,tp,tn,ts,h2,g1,g2,-,-⟩:=joY (q1.word L);rw[<-g1,<-g2];have h5:=jH h2;have H2:=jH e2;have F1:q1.S.next<=900000:=by have:=f1.1;omega
  clear h2 g1 g2 e2 A f1
  go_enter Tryz.func87,Tryz.ntmps87
  go_wp2_with (first
   |(go_at_call 99;refine(W.go H1.o H.o).mono ?_;rintro _ w1 ⟨rfl,h0,F,O⟩;clear H)
   |(go_at_call 100;refine(jrN h4.o E F).mono ?_;rintro _ w2 ⟨rfl,I,K⟩;have R:=O.trans K;clear F)
   |(go_at_call 67;refine(jo9 h5.o F1 E I).mono ?_;rintro _ w3 ⟨rfl,C,h8⟩;have np:=Nat.ne_of_gt (C.lt E);have k1:=C.row _ jN;have k4:=R.trans h8;clear I)
   |(go_at_call 99;refine(W.go H2.o (C.al E _)).mono ?_;rintro _ w4 ⟨rfl,k8,k7,h3⟩;obtain⟨B,k9⟩:=h3.loc (jnC w3 _) np k1;have h7:=k4.trans ((Fr.al C E _).trans h3);have c0:=jmp B 0 rfl;have c1:=jmp B 1 rfl;have c2:=jmp B 2 rfl;have c3:=jmp B 3 rfl;clear C B)
   |(go_at_call 88;refine(jsJ (k:=17) f2 E k7).mono ?_;rintro _ w5 ⟨rfl,k5,h9,h6⟩))
  go_ret;exact⟨rfl,k5,h9,h7.trans h6⟩
 .rw[if_pos (by simpa using hk)]at A
  obtain⟨_,rfl,rfl⟩:=joi A;have hb:=jnE hk;clear A hk
  go_enter Tryz.func87,Tryz.ntmps87
  go_wp2_with (first
   |(go_at_call 99;refine(W.go H1.o H.o).mono ?_;rintro _ w1 ⟨rfl,h0,F,O⟩;clear H)
   |(go_at_call 100;refine(jrN h4.o E F).mono ?_;rintro _ w2 ⟨rfl,I,K⟩;have R:=O.trans K;clear F))
  go_ret;exact⟨rfl,h0,I,R⟩
set_option maxRecDepth 100000 in
theorem jBi (E:PE p lb cap base L) (h1:WkM p lb cap base N L n 124 .un) (h2:WkM p lb cap base N L n 127 .call):WkM p lb cap base N L (n+1) 124 .un:=by
 intro w q pv x q' D k1 k2;obtain⟨k4,k,hk,A⟩:=jop k1;cases hk;simp only[jm1]at A
 obtain⟨kk,h7⟩:∃kk,q.kind L=kk:=⟨_,rfl⟩
 rw[h7]at A;have h6:=jH h7;have U:=jH k2;have F0:q.S.next<=900000:=by have:=k4.1;omega
 clear h7 k1 k2 k4
 by_cases O:kk=31
 .subst O
  rw[if_pos rfl]at A;obtain⟨b,q2,e2,f2,A⟩:=jnd A;obtain⟨_,rfl,rfl⟩:=jnR A;obtain⟨tk,tp,tn,ts,K,g1,g2,-,-⟩:=joY (q.word L);rw[<-g1,<-g2];have h0:=jH K;have H2:=jH e2;clear K g1 g2 e2 A
  go_enter Tryz.func124,Tryz.ntmps124
  go_wp2_with (first
   |(go_at_call 61;refine(jn0 h6.o E U.o).mono ?_;rintro _ w1 ⟨rfl,H,I⟩;clear U)
   |(go_at_call 67;refine(jo9 h0.o F0 E H).mono ?_;rintro _ w3 ⟨rfl,C,h4⟩;have np:=Nat.ne_of_gt (C.lt E);have h5:=C.row _ jN;have h9:=I.trans h4;clear H)
   |(go_at_call 124;refine(h1.go H2.o (C.al E _)).mono ?_;rintro _ w4 ⟨rfl,k8,F,R⟩;obtain⟨B,q4⟩:=R.loc (jnC w3 _) np h5;have h3:=h9.trans ((Fr.al C E _).trans R);have c0:=jmp B 0 rfl;have c1:=jmp B 1 rfl;have d0:=jol B 0 rfl;have d1:=jol B 1 rfl;clear C B)
   |(go_at_call 85;refine(jpt (k:=13) (a:=tp) (wd:=tk) (nm:=0) (ns:=[]) (ks:=[b]) f2 E (F.al E _) (jqg _ _ _ _) (jqi F F.bs [b] (by simp) rfl rfl rfl)).mono ?_;rintro _ w7 ⟨rfl,Y,Z,h8⟩))
  go_ret;exact⟨rfl,Y,Z,h3.trans ((Fr.al F E _).trans h8)⟩
 rw[if_neg O]at A
 by_cases W:kk=10
 .subst W
  rw[if_pos rfl]at A;clear O;obtain⟨b,q2,e2,f2,A⟩:=jnd A;obtain⟨_,rfl,rfl⟩:=jnR A;obtain⟨tk,tp,tn,ts,K,g1,g2,-,-⟩:=joY (q.word L);rw[<-g1,<-g2];have h0:=jH K;have H2:=jH e2;clear K g1 g2 e2 A
  go_enter Tryz.func124,Tryz.ntmps124
  go_wp2_with (first
   |(go_at_call 61;refine(jn0 h6.o E U.o).mono ?_;rintro _ w1 ⟨rfl,H,I⟩;clear U)
   |(go_at_call 67;refine(jo9 h0.o F0 E H).mono ?_;rintro _ w3 ⟨rfl,C,h4⟩;have np:=Nat.ne_of_gt (C.lt E);have h5:=C.row _ jN;have h9:=I.trans h4;clear H)
   |(go_at_call 124;refine(h1.go H2.o (C.al E _)).mono ?_;rintro _ w4 ⟨rfl,k8,F,R⟩;obtain⟨B,q4⟩:=R.loc (jnC w3 _) np h5;have h3:=h9.trans ((Fr.al C E _).trans R);have c0:=jmp B 0 rfl;have c1:=jmp B 1 rfl;have d0:=jol B 0 rfl;have d1:=jol B 1 rfl;clear C B)
   |(go_at_call 85;refine(jpt (k:=14) (a:=tp) (wd:=tk) (nm:=0) (ns:=[]) (ks:=[b]) f2 E (F.al E _) (jqg _ _ _ _) (jqi F F.bs [b] (by simp) rfl rfl rfl)).mono ?_;rintro _ w7 ⟨rfl,Y,Z,h8⟩))
  go_ret;exact⟨rfl,Y,Z,h3.trans ((Fr.al F E _).trans h8)⟩
 rw[if_neg W]at A;have k9:=jH A;have b1:=jnE O;have b2:=jnE W;clear A O W
 go_enter Tryz.func124,Tryz.ntmps124
 go_wp2_with (first
  |(go_at_call 61;refine(jn0 h6.o E U.o).mono ?_;rintro _ w1 ⟨rfl,H,I⟩)
  |(go_at_call 127;refine(h2.go k9.o H).mono ?_;rintro _ w2 ⟨rfl,k5,q5,k7⟩))
 go_ret;exact⟨rfl,k5,q5,I.trans k7⟩
end
section
variable {w w':World}{p lb cap base:Nat}{N:Int}{L:List Tok}{q:Q}{pv:Value}{D:Nat->Prop}
theorem PM.set (h:PM w p lb cap base N L q pv D) (E:PE p lb cap base L) {B i:Nat}{v:Value}(K:D B) (A:base<=B) (W:pv.ownBlock≠some B):PM (w.setCell ⟨B,i,none⟩ v) p lb cap base N L q pv D:=by
 have F:∀b,b≠B->(w.setCell ⟨B,i,none⟩ v).heap[b]? =w.heap[b]?:=fun b A=>Kh w ⟨B,i,none⟩ v b A;have U:=E.pb;have O:=E.lbp;obtain⟨vs,I,H⟩:=h.ps;refine⟨(F p (by omega)).trans h.blk,⟨vs,⟨joh I.own fun b A=>F b (fun e=>W (e ▸ A)),I.len,fun j U O=>?_⟩,H⟩,h.cw.below ((Ko base w).setCell (p:=⟨B,i,none⟩) A v) (by omega),by rw[size_setCell];exact h.bs,fun b A=>by rw[size_setCell];exact h.dl b A⟩;have C:=I.rows j U O;have R:vs[j] ∈ vs:=List.getElem_mem O;exact⟨joh C.names fun b A=>F b (fun e=>(H B K _ R).1 (e ▸ A)),joh C.kids fun b A=>F b (fun e=>(H B K _ R).2 (e ▸ A)),C.n1,C.n2⟩
theorem NmR.set {r:Option Nat}{A:Value}{ns:List ByteArray}(h:NmR w base r D A ns) {B i:Nat}{v:Value}(C:D B):NmR (w.setCell ⟨B,i,none⟩ v) base r D A ns:=
 ⟨joh h.1 fun b hb=>Kh w ⟨B,i,none⟩ v b (fun e=>(h.2 b hb).2 (e ▸ C)),h.2⟩
theorem KdR.set {r:Option Nat}{A:Value}{ns:List Int}(h:KdR w base r D A ns) {B i:Nat}{v:Value}(C:D B):KdR (w.setCell ⟨B,i,none⟩ v) base r D A ns:=
 ⟨joh h.1 fun b hb=>Kh w ⟨B,i,none⟩ v b (fun e=>(h.2 b hb).2 (e ▸ C)),h.2⟩
theorem Fr.setB {r A:Option Nat}{w0:World}(h:Fr p r A w0 w) {B i:Nat}{v:Value}(E:w0.heap.size<=B) (C:p<=B):Fr p r A w0 (w.setCell ⟨B,i,none⟩ v):=
 ⟨h.below.setCell (p:=⟨B,i,none⟩) C v,by rw[size_setCell];exact h.size,fun b h1 h2 h3=>(Kh w ⟨B,i,none⟩ v b (by show b≠B;omega)).trans (h.rest b h1 h2 h3),h.row⟩
theorem jt2 {w:World}{o:Obj}{b:Nat}(h:b=w.heap.size):(w.alloc o).heap[b]? =some o:=by
 rw[h];exact jnC w o
end
section
variable {p lb cap base n:Nat}{N:Int}{L:List Tok}
set_option maxRecDepth 100000 in
theorem jE7 (E:PE p lb cap base L) (he:WkM p lb cap base N L n 31 .expr):WkM p lb cap base N L (n+1) 62 .lett:=by
 intro w q pv x q' D y2 y3;obtain⟨v1,k,hk,C⟩:=jop y2;cases hk;simp only[jm1,jov]at C;obtain⟨tk,tp,tn,ts,y8,g1,g2,-,-⟩:=joY (q.word L);have x7:=jH y8;have v2:=jH y3;have F0:q.S.next<=900000:=by have:=v1.1;omega
 have FT:q.take.S.next<=500001:=by have:=v1.1;show q.S.next+1<=_;omega
 have z8:q.take.take.S.next<=500002:=by have:=v1.1;show q.S.next+1+1<=_;omega
 have z6: -100000<=q.take.S.opn:=by have:=v1.2.1;show -100000<=q.S.opn;omega
 have z5:q.take.S.opn<=100000:=by have:=v1.2.2.1;show q.S.opn<=100000;omega
 obtain⟨kk,x9⟩:∃kk,q.take.kind L=kk:=⟨_,rfl⟩
 rw[x9]at C;have x4:=jH x9;clear x9 y2 y3 v1 y8
 by_cases k4:kk=4
 .subst k4
  rw[if_pos rfl]at C
  obtain⟨qn,ns,hz⟩:∃qn ns,q.take.take.fnm L=(qn,ns):=⟨_,_,rfl⟩
  rw[hz]at C;obtain⟨a,q1,e1,f1,C⟩:=jnd C;obtain⟨b,q2,e2,f2,C⟩:=jnd C;obtain⟨_,rfl,rfl⟩:=jnR C;rw[<-g1,<-g2];have H1:=jH e1;have H2:=jH e2;have v9:q1.S.next<=900000:=by have:=f1.1;omega
  have HZ:=jH hz
  have v4:qn.S.next<=900000:=by
   have:=jGo (L:=L) (q:=q.take.take) E.len (by omega);rw[hz]at this;simp only at this;omega
  obtain⟨wk,wp,wn,ws,v6,-⟩:=joY (q.take.word L);have x5:=jH v6;clear g1 g2 e1 e2 C f1 hz v6
  go_enter Tryz.func62,Tryz.ntmps62
  go_wp2_with (first
   |(go_at_call 67;refine(jo9 x7.o F0 E v2.o).mono ?_;rintro _ w1 ⟨rfl,F,k7⟩;have h7:w.heap.size<=w1.heap.size+1:=(by have:=k7.size;omega);have h9:base<=w1.heap.size+1:=(by have:=F.bs;omega);have h6:p<=w1.heap.size+1:=(by have:=F.lt E;omega);have I:w1.heap.size+1≠p:=(by have:=F.lt E;omega);clear v2)
   |(go_at_call 61;refine(jn0 x4.o E ((F.al E _).alD E _ (B:=w1.heap.size+1) (n:=0) (c:=0) (by rw[Ya]))).mono ?_;rintro _ w2 ⟨rfl,k5,k1⟩;obtain⟨h8,v3⟩:=k1.loc (jt2 (by rw[Ya])) I (F.row _ (Nat.le_succ _));have v5:=(k7.trans ((Fr.al F E _).trans (Fr.al (F.al E _) E _))).trans k1;clear F)
   |(go_at_call 67;refine(jo9 x5.o (by omega) E k5).mono ?_;rintro _ w3 ⟨rfl,k2,v7⟩;obtain⟨q4,x2⟩:=v7.loc h8 I v3;have y0:=v5.trans v7;have c0:=jmp q4 0 rfl;have f0:=jne q4 0;clear k5 h8)
   |(go_at_call 83;refine(fnmM HZ.o (by omega) E (k2.set E (.inr rfl) h9 x2)).mono ?_;rintro _ w4 ⟨na,nc,rfl,Z,r1,v8⟩;obtain⟨K,h3⟩:=v8.loc (block_setCell q4 0 (.int .i64 9)) I x2;have k9:=(y0.setB h7 h6).trans v8;have c4:=jmp K 4 rfl;have f4:=jne K 4;clear k2 q4)
   |(go_at_call 32;refine(jqa v4 E ((Z).set E (.inr rfl) h9 h3)).mono ?_;rintro _ z4 ⟨⟨u0,u1,u2,u3,rfl⟩,h0,O⟩;obtain⟨h4,q9⟩:=O.loc (block_setCell K 4 _) I h3;have r4:=((r1).set (.inr rfl)).fr O E.pb;have q7:=(k9.setB h7 h6).trans O;clear Z K)
   |(go_at_call 31;refine(he.go H1.o h0).mono ?_;rintro _ y5 ⟨rfl,x8,h1,R⟩;obtain⟨h5,q8⟩:=R.loc h4 I q9;have r7:=r4.fr R E.pb;have v0:=q7.trans R;clear h0 H1)
   |(go_at_call 32;refine(jqa v9 E h1).mono ?_;rintro _ y1 ⟨⟨z0,z1,z2,z3,rfl⟩,h2,W⟩;obtain⟨Y,q6⟩:=W.loc h5 I q8;have r6:=r7.fr W E.pb;have r3:=v0.trans W;clear h1)
   |(go_at_call 31;refine(he.go H2.o h2).mono ?_;rintro _ y6 ⟨rfl,x6,H,U⟩;obtain⟨A,r9⟩:=U.loc Y I q6;have r8:=r6.fr U E.pb;have q5:=r3.trans U;have e5:=jol A 5 rfl;have y7:=fun o=>jne (jny (o:=o) A) 5;have L0:=fun o v=>jmp (block_setCell (jny (o:=o) A) 5 v) 0 rfl;have L1:=fun o v=>jmp (block_setCell (jny (o:=o) A) 5 v) 1 rfl;have L2:=fun o v=>jmp (block_setCell (jny (o:=o) A) 5 v) 2 rfl;have L3:=fun o v=>jmp (block_setCell (jny (o:=o) A) 5 v) 3 rfl;have L4:=fun o v=>jmp (block_setCell (jny (o:=o) A) 5 v) 4 rfl;have L5:=fun o v=>jmp (block_setCell (jny (o:=o) A) 5 v) 5 rfl;clear h2 H2 h4 h5 Y)
   |(go_at_call 85;refine(jpt (k:=9) (a:=tp) (wd:=tk) (nm:=0) (ns:=ns) (ks:=[a,b]) f2 E ((H.al E _).set E (.inr rfl) h9 r9) ((r8.fr (Fr.al H E _) E.pb).set (.inr rfl)) ((jqi H H.bs [a,b] (by simp) rfl rfl rfl).set (.inr rfl))).mono ?_;rintro _ y4 ⟨rfl,r2,k8,r5⟩))
  go_ret;exact⟨rfl,r2,k8.weak (fun b hb=>.inl hb),((q5.trans (Fr.al H E _)).setB h7 h6).trans r5⟩
 rw[if_neg k4]at C
 by_cases x1:kk=23
 .subst x1
  rw[if_pos rfl]at C;clear k4
  obtain⟨qn,ns,hz⟩:∃qn ns,q.take.tpm L N=(qn,ns):=⟨_,_,rfl⟩
  rw[hz]at C;obtain⟨a,q1,e1,f1,C⟩:=jnd C;obtain⟨b,q2,e2,f2,C⟩:=jnd C;obtain⟨_,rfl,rfl⟩:=jnR C;rw[<-g1,<-g2];have H1:=jH e1;have H2:=jH e2;have v9:q1.S.next<=900000:=by have:=f1.1;omega
  have HZ:=jH hz
  have v4:qn.S.next<=900000:=by
   have:=jBD (L:=L) (N:=N) (q:=q.take) E.len (by omega);rw[hz]at this;simp only at this;omega
  clear g1 g2 e1 e2 C f1 hz
  go_enter Tryz.func62,Tryz.ntmps62
  go_wp2_with (first
   |(go_at_call 67;refine(jo9 x7.o F0 E v2.o).mono ?_;rintro _ w1 ⟨rfl,F,k7⟩;have h7:w.heap.size<=w1.heap.size+1:=(by have:=k7.size;omega);have h9:base<=w1.heap.size+1:=(by have:=F.bs;omega);have h6:p<=w1.heap.size+1:=(by have:=F.lt E;omega);have I:w1.heap.size+1≠p:=(by have:=F.lt E;omega);clear v2)
   |(go_at_call 61;refine(jn0 x4.o E ((F.al E _).alD E _ (B:=w1.heap.size+1) (n:=0) (c:=0) (by rw[Ya]))).mono ?_;rintro _ w2 ⟨rfl,k5,k1⟩;obtain⟨h8,v3⟩:=k1.loc (jt2 (by rw[Ya])) I (F.row _ (Nat.le_succ _));have v5:=(k7.trans ((Fr.al F E _).trans (Fr.al (F.al E _) E _))).trans k1;have c0:=jmp h8 0 rfl;have f0:=jne h8 0;clear F)
   |(go_at_call 84;refine(tpmM HZ.o (by omega) z6 z5 E (k5.set E (.inr rfl) h9 v3)).mono ?_;rintro _ w4 ⟨na,nc,rfl,Z,r1,v8⟩;obtain⟨K,h3⟩:=v8.loc (block_setCell h8 0 (.int .i64 10)) I v3;have k9:=(v5.setB h7 h6).trans v8;have c4:=jmp K 4 rfl;have f4:=jne K 4;clear k5 h8)
   |(go_at_call 32;refine(jqa v4 E ((Z).set E (.inr rfl) h9 h3)).mono ?_;rintro _ z4 ⟨⟨u0,u1,u2,u3,rfl⟩,h0,O⟩;obtain⟨h4,q9⟩:=O.loc (block_setCell K 4 _) I h3;have r4:=((r1).set (.inr rfl)).fr O E.pb;have q7:=(k9.setB h7 h6).trans O;clear Z K)
   |(go_at_call 31;refine(he.go H1.o h0).mono ?_;rintro _ y5 ⟨rfl,x8,h1,R⟩;obtain⟨h5,q8⟩:=R.loc h4 I q9;have r7:=r4.fr R E.pb;have v0:=q7.trans R;clear h0 H1)
   |(go_at_call 32;refine(jqa v9 E h1).mono ?_;rintro _ y1 ⟨⟨z0,z1,z2,z3,rfl⟩,h2,W⟩;obtain⟨Y,q6⟩:=W.loc h5 I q8;have r6:=r7.fr W E.pb;have r3:=v0.trans W;clear h1)
   |(go_at_call 31;refine(he.go H2.o h2).mono ?_;rintro _ y6 ⟨rfl,x6,H,U⟩;obtain⟨A,r9⟩:=U.loc Y I q6;have r8:=r6.fr U E.pb;have q5:=r3.trans U;have e5:=jol A 5 rfl;have y7:=fun o=>jne (jny (o:=o) A) 5;have L0:=fun o v=>jmp (block_setCell (jny (o:=o) A) 5 v) 0 rfl;have L1:=fun o v=>jmp (block_setCell (jny (o:=o) A) 5 v) 1 rfl;have L2:=fun o v=>jmp (block_setCell (jny (o:=o) A) 5 v) 2 rfl;have L3:=fun o v=>jmp (block_setCell (jny (o:=o) A) 5 v) 3 rfl;have L4:=fun o v=>jmp (block_setCell (jny (o:=o) A) 5 v) 4 rfl;have L5:=fun o v=>jmp (block_setCell (jny (o:=o) A) 5 v) 5 rfl;clear h2 H2 h4 h5 Y)
   |(go_at_call 85;refine(jpt (k:=10) (a:=tp) (wd:=tk) (nm:=0) (ns:=ns) (ks:=[a,b]) f2 E ((H.al E _).set E (.inr rfl) h9 r9) ((r8.fr (Fr.al H E _) E.pb).set (.inr rfl)) ((jqi H H.bs [a,b] (by simp) rfl rfl rfl).set (.inr rfl))).mono ?_;rintro _ y4 ⟨rfl,r2,k8,r5⟩))
  go_ret;exact⟨rfl,r2,k8.weak (fun b hb=>.inl hb),((q5.trans (Fr.al H E _)).setB h7 h6).trans r5⟩
 rw[if_neg x1]at C;have b1:=jnE k4;have b2:=jnE x1;clear k4 x1
 obtain⟨qn,x0⟩:∃qn,q.take.want L 2=qn:=⟨_,rfl⟩
 obtain⟨wk,wp,wn,ws,v6,-,-,-,y9⟩:=joY (jm8 L 2 q.take.S)
 obtain⟨ns,x3⟩:∃ns,ns=[ws]:=⟨_,rfl⟩
 rw[x0,<-y9,<-x3]at C;have HN:=jH x3;have x5:=jH v6;have z7:=jH x0
 have v4:qn.S.next<=900000:=by
  rw[<-x0];have:=jpu (L:=L) (k:=2) (M:=500001) (S:=q.take.S) (by have:=E.len;omega) FT;show(q.take.S.want L 2).next<=_;omega
 .have _h0:=True.intro
  obtain⟨a,q1,e1,f1,C⟩:=jnd C;obtain⟨b,q2,e2,f2,C⟩:=jnd C;obtain⟨_,rfl,rfl⟩:=jnR C;rw[<-g1,<-g2];have H1:=jH e1;have H2:=jH e2;have v9:q1.S.next<=900000:=by have:=f1.1;omega
  clear g1 g2 e1 e2 C f1 v6 x0 y9 x3
  go_enter Tryz.func62,Tryz.ntmps62
  go_wp2_with (first
   |(go_at_call 67;refine(jo9 x7.o F0 E v2.o).mono ?_;rintro _ w1 ⟨rfl,F,k7⟩;have h7:w.heap.size<=w1.heap.size+1:=(by have:=k7.size;omega);have h9:base<=w1.heap.size+1:=(by have:=F.bs;omega);have h6:p<=w1.heap.size+1:=(by have:=F.lt E;omega);have I:w1.heap.size+1≠p:=(by have:=F.lt E;omega);clear v2)
   |(go_at_call 61;refine(jn0 x4.o E ((F.al E _).alD E _ (B:=w1.heap.size+1) (n:=0) (c:=0) (by rw[Ya]))).mono ?_;rintro _ w2 ⟨rfl,k5,k1⟩;obtain⟨h8,v3⟩:=k1.loc (jt2 (by rw[Ya])) I (F.row _ (Nat.le_succ _));have v5:=(k7.trans ((Fr.al F E _).trans (Fr.al (F.al E _) E _))).trans k1;clear F)
   |(go_at_call 32;refine(jxc x5.o (by omega) E k5).mono ?_;rw[z7.o];rintro _ w3 ⟨rfl,k2,v7⟩;obtain⟨q4,x2⟩:=v7.loc h8 I v3;have y0:=v5.trans v7;have Z:=((k2.al E (.cells #[.int .i64 (wk:Nat),.int .i64 (wp:Nat),.int .i64 wn,.string ws] 90)).al E (.cells #[.string ws] 9));have r1:NmR _ base pv.ownBlock _ (.slice (some ⟨w3.heap.size+1,0,none⟩) 1 1) ns:=(by rw[HN.o];exact jyA (k2.al E (.cells #[.int .i64 (wk:Nat),.int .i64 (wp:Nat),.int .i64 wn,.string ws] 90)) [ws] (by simp) rfl (by rw[Ya]) rfl);have K:=jny (o:=.cells #[.string ws] 9) (jny (o:=.cells #[.int .i64 (wk:Nat),.int .i64 (wp:Nat),.int .i64 wn,.string ws] 90) q4);have h3:=x2;have k9:=y0.trans ((Fr.al k2 E (.cells #[.int .i64 (wk:Nat),.int .i64 (wp:Nat),.int .i64 wn,.string ws] 90)).trans (Fr.al (k2.al E _) E (.cells #[.string ws] 9)));have c4:=jmp K 4 rfl;have f4:=jne K 4;clear k2 q4 k5 h8)
   |(go_at_call 32;refine(jqa v4 E ((Z).set E (.inr rfl) h9 h3)).mono ?_;rintro _ z4 ⟨⟨u0,u1,u2,u3,rfl⟩,h0,O⟩;obtain⟨h4,q9⟩:=O.loc (block_setCell K 4 _) I h3;have r4:=((r1).set (.inr rfl)).fr O E.pb;have q7:=(k9.setB h7 h6).trans O;clear Z K)
   |(go_at_call 31;refine(he.go H1.o h0).mono ?_;rintro _ y5 ⟨rfl,x8,h1,R⟩;obtain⟨h5,q8⟩:=R.loc h4 I q9;have r7:=r4.fr R E.pb;have v0:=q7.trans R;clear h0 H1)
   |(go_at_call 32;refine(jqa v9 E h1).mono ?_;rintro _ y1 ⟨⟨z0,z1,z2,z3,rfl⟩,h2,W⟩;obtain⟨Y,q6⟩:=W.loc h5 I q8;have r6:=r7.fr W E.pb;have r3:=v0.trans W;clear h1)
   |(go_at_call 31;refine(he.go H2.o h2).mono ?_;rintro _ y6 ⟨rfl,x6,H,U⟩;obtain⟨A,r9⟩:=U.loc Y I q6;have r8:=r6.fr U E.pb;have q5:=r3.trans U;have e5:=jol A 5 rfl;have y7:=fun o=>jne (jny (o:=o) A) 5;have L0:=fun o v=>jmp (block_setCell (jny (o:=o) A) 5 v) 0 rfl;have L1:=fun o v=>jmp (block_setCell (jny (o:=o) A) 5 v) 1 rfl;have L2:=fun o v=>jmp (block_setCell (jny (o:=o) A) 5 v) 2 rfl;have L3:=fun o v=>jmp (block_setCell (jny (o:=o) A) 5 v) 3 rfl;have L4:=fun o v=>jmp (block_setCell (jny (o:=o) A) 5 v) 4 rfl;have L5:=fun o v=>jmp (block_setCell (jny (o:=o) A) 5 v) 5 rfl;clear h2 H2 h4 h5 Y)
   |(go_at_call 85;refine(jpt (k:=8) (a:=tp) (wd:=tk) (nm:=0) (ns:=ns) (ks:=[a,b]) f2 E ((H.al E _).set E (.inr rfl) h9 r9) ((r8.fr (Fr.al H E _) E.pb).set (.inr rfl)) ((jqi H H.bs [a,b] (by simp) rfl rfl rfl).set (.inr rfl))).mono ?_;rintro _ y4 ⟨rfl,r2,k8,r5⟩))
  go_ret;exact⟨rfl,r2,k8.weak (fun b hb=>.inl hb),((q5.trans (Fr.al H E _)).setB h7 h6).trans r5⟩
end
section
variable {p lb cap base n:Nat}{N:Int}{L:List Tok}
set_option maxRecDepth 100000 in
theorem jBW (E:PE p lb cap base L) (h1:WkM p lb cap base N L n 112 .prod):WkM p lb cap base N L (n+1) 99 .sum:=by
 intro w q pv x q' D F Y;obtain⟨K,k,hk,A⟩:=jop F;cases hk;simp only[jm1]at A;obtain⟨a,q1,e1,f1,A⟩:=jnd A;have h6:=jH Y;have H1:=jH e1;have HS:=jH A;clear F Y K e1 A f1
 go_enter Tryz.func99,Tryz.ntmps99
 go_wp2_with (go_at_call 112;refine(h1.go H1.o h6.o).mono ?_;rintro _ w1 ⟨rfl,k2,h2,Z⟩)
 have h3:=jH h2;have h7:=jH Z;clear h2 Z
 go_loopg [3] n (fun gh v (wr:World)=>∃(l:Int) (H:Q) (I:Value),v= .int .i64 l/\gh<=n/\pr L N gh (.sumL l) H=some (x,q')/\PM wr p lb cap base N L H I D/\Kp p pv I w wr)
 case atStart=>exact⟨a,q1,k2,rfl,jN,HS.o,h3.o,h7.o⟩
 case round=>
  obtain⟨l,H,I,rfl,q6,F,hm,hf⟩:=hrel;obtain⟨K,k,hk,A⟩:=jop F;subst hk;simp only[jm1]at A
  obtain⟨kk,W⟩:∃kk,cOp (H.kind L)=kk:=⟨_,rfl⟩
  rw[W]at A;have h4:=jH W;have HM:=jH hm;have HF:=jH hf;have F1:H.S.next<=900000:=by have:=K.1;omega
  clear W hm hf F K H1 HS h3 h7 h6
  by_cases hk:kk=16
  .subst hk
   rw[if_neg (by simp)]at A;obtain⟨b,q2,e2,f2,A⟩:=jnd A;obtain⟨x3,q3,e3,f3,A⟩:=jnd A;obtain⟨_,rfl,rfl⟩:=jnR e3;obtain⟨tk,tp,tn,ts,h0,g1,g2,-,-⟩:=joY (H.word L);rw[<-g1,<-g2]at A;have h8:=jH h0;have H2:Hid (pr L N n .prod H.take=some (b,q2)):=jnj (by omega) e2;have k7:=jH A;clear h0 g1 g2 e2 A e3 f3
   go_wp2_with (first
    |(go_at_call 100;refine(jrN h4.o E HM.o).mono ?_;rintro _ w2 ⟨rfl,O,R⟩;have U:=HF.o.trans R;clear HM)
    |(go_at_call 67;refine(jo9 h8.o F1 E O).mono ?_;rintro _ w3 ⟨rfl,C,k4⟩;have np:=Nat.ne_of_gt (C.lt E);have k8:=C.row _ jN;have k9:=U.trans k4;clear O)
    |(go_at_call 112;refine(h1.go H2.o (C.al E _)).mono ?_;rintro _ w4 ⟨rfl,q7,q5,h5⟩;obtain⟨B,q8⟩:=h5.loc (jnC w3 _) np k8;have k1:=k9.trans ((Fr.al C E _).trans h5);have c0:=jmp B 0 rfl;have c1:=jmp B 1 rfl;have c2:=jmp B 2 rfl;have c3:=jmp B 3 rfl;clear C B)
    |(go_at_call 88;refine(jsJ (k:=16) f2 E q5).mono ?_;rintro _ w5 ⟨rfl,q4,k5,h9⟩))
   go_roundg k
   case measure=>omega
   case rel=>exact⟨_,_,q4,rfl,by omega,k7.o,k5,k1.trans h9⟩
  .rw[if_pos (by simpa using hk)]at A
   obtain⟨_,rfl,rfl⟩:=joi A;have hb:=jnE hk;clear A hk
   go_wp2_with (go_at_call 100;refine(jrN h4.o E HM.o).mono ?_;rintro _ w2 ⟨rfl,O,R⟩;have U:=HF.o.trans R)
   go_ret;exact⟨rfl,I,O,U⟩
set_option maxRecDepth 100000 in
theorem jDJ (E:PE p lb cap base L) (h1:WkM p lb cap base N L n 124 .un):WkM p lb cap base N L (n+1) 112 .prod:=by
 intro w q pv x q' D F Y;obtain⟨K,k,hk,A⟩:=jop F;cases hk;simp only[jm1]at A;obtain⟨a,q1,e1,f1,A⟩:=jnd A;have h6:=jH Y;have H1:=jH e1;have HS:=jH A;clear F Y K e1 A f1
 go_enter Tryz.func112,Tryz.ntmps112
 go_wp2_with (go_at_call 124;refine(h1.go H1.o h6.o).mono ?_;rintro _ w1 ⟨rfl,k2,h2,Z⟩)
 have h3:=jH h2;have h7:=jH Z;clear h2 Z
 go_loopg [3] n (fun gh v (wr:World)=>∃(l:Int) (H:Q) (I:Value),v= .int .i64 l/\gh<=n/\pr L N gh (.prodL l) H=some (x,q')/\PM wr p lb cap base N L H I D/\Kp p pv I w wr)
 case atStart=>exact⟨a,q1,k2,rfl,jN,HS.o,h3.o,h7.o⟩
 case round=>
  obtain⟨l,H,I,rfl,q6,F,hm,hf⟩:=hrel;obtain⟨K,k,hk,A⟩:=jop F;subst hk;simp only[jm1]at A
  obtain⟨kk,W⟩:∃kk,cOp (H.kind L)=kk:=⟨_,rfl⟩
  rw[W]at A;have h4:=jH W;have HM:=jH hm;have HF:=jH hf;have F1:H.S.next<=900000:=by have:=K.1;omega
  clear W hm hf F K H1 HS h3 h7 h6
  by_cases hk:kk=15
  .subst hk
   rw[if_neg (by simp)]at A;obtain⟨b,q2,e2,f2,A⟩:=jnd A;obtain⟨x3,q3,e3,f3,A⟩:=jnd A;obtain⟨_,rfl,rfl⟩:=jnR e3;obtain⟨tk,tp,tn,ts,h0,g1,g2,-,-⟩:=joY (H.word L);rw[<-g1,<-g2]at A;have h8:=jH h0;have H2:Hid (pr L N n .un H.take=some (b,q2)):=jnj (by omega) e2;have k7:=jH A;clear h0 g1 g2 e2 A e3 f3
   go_wp2_with (first
    |(go_at_call 100;refine(jrN h4.o E HM.o).mono ?_;rintro _ w2 ⟨rfl,O,R⟩;have U:=HF.o.trans R;clear HM)
    |(go_at_call 67;refine(jo9 h8.o F1 E O).mono ?_;rintro _ w3 ⟨rfl,C,k4⟩;have np:=Nat.ne_of_gt (C.lt E);have k8:=C.row _ jN;have k9:=U.trans k4;clear O)
    |(go_at_call 124;refine(h1.go H2.o (C.al E _)).mono ?_;rintro _ w4 ⟨rfl,q7,q5,h5⟩;obtain⟨B,q8⟩:=h5.loc (jnC w3 _) np k8;have k1:=k9.trans ((Fr.al C E _).trans h5);have c0:=jmp B 0 rfl;have c1:=jmp B 1 rfl;have c2:=jmp B 2 rfl;have c3:=jmp B 3 rfl;clear C B)
    |(go_at_call 88;refine(jsJ (k:=15) f2 E q5).mono ?_;rintro _ w5 ⟨rfl,q4,k5,h9⟩))
   go_roundg k
   case measure=>omega
   case rel=>exact⟨_,_,q4,rfl,by omega,k7.o,k5,k1.trans h9⟩
  .rw[if_pos (by simpa using hk)]at A
   obtain⟨_,rfl,rfl⟩:=joi A;have hb:=jnE hk;clear A hk
   go_wp2_with (go_at_call 100;refine(jrN h4.o E HM.o).mono ?_;rintro _ w2 ⟨rfl,O,R⟩;have U:=HF.o.trans R)
   go_ret;exact⟨rfl,I,O,U⟩
set_option maxRecDepth 100000 in
theorem jEd (E:PE p lb cap base L) (h1:WkM p lb cap base N L n 132 .atom) (h2:WkM p lb cap base N L n 31 .expr):WkM p lb cap base N L (n+1) 129 .operand:=by
 intro w q pv x q' D F h0;obtain⟨H,k,hk,A⟩:=jop F;cases hk;simp only[jm1]at A;obtain⟨a,q1,e1,f1,A⟩:=jnd A;have h9:=jH h0;have H1:=jH e1;have HS:=jH A;clear F h0 H e1 A f1
 go_enter Tryz.func129,Tryz.ntmps129
 go_wp2_with (go_at_call 132;refine(h1.go H1.o h9.o).mono ?_;rintro _ w1 ⟨rfl,k7,h5,h3⟩)
 have h6:=jH h5;have k1:=jH h3;clear h5 h3
 go_loopg [3] n (fun gh v (wr:World)=>∃(l:Int) (I:Q) (K:Value),v= .int .i64 l/\gh<=n/\pr L N gh (.operL l) I=some (x,q')/\PM wr p lb cap base N L I K D/\Kp p pv K w wr)
 case atStart=>exact⟨a,q1,k7,rfl,jN,HS.o,h6.o,k1.o⟩
 case round=>
  obtain⟨l,I,K,rfl,r3,F,hm,hf⟩:=hrel;obtain⟨H,k,hk,A⟩:=jop F;subst hk;simp only[jm1]at A
  obtain⟨kk,W⟩:∃kk,I.kind L=kk:=⟨_,rfl⟩
  rw[W]at A;have h7:=jH W;have HM:=jH hm;have HF:=jH hf;have F1:I.S.next<=900000:=by have:=H.1;omega
  have FI:=H;clear W hm hf F H H1 HS h6 k1 h9
  by_cases hk:kk=18
  .subst hk
   rw[if_neg (by simp)]at A;obtain⟨b,q2,e2,f2,A⟩:=jnd A;obtain⟨x3,q3,e3,f3,A⟩:=jnd A;obtain⟨FA,rfl,rfl⟩:=jnR e3;obtain⟨tk,tp,tn,ts,h4,g1,g2,-,-⟩:=joY (I.begW L N 18);rw[<-g1,<-g2]at A;have k4:=jH h4;have H2:Hid (pr L N n .expr (I.beg L N 18)=some (b,q2)):=jnj (by omega) e2;have q5:=jH A;clear h4 g1 g2 e2 A e3 f3
   go_wp2_with (first
    |(go_at_call 61;refine(jn0 h7.o E HM.o).mono ?_;rintro _ w2 ⟨rfl,O,R⟩;have U:=HF.o.trans R;clear HM)
    |(go_at_call 97;refine(jwF k4.o FI E O).mono ?_;rintro _ w3 ⟨rfl,C,k9⟩;have np:=Nat.ne_of_gt (C.lt E);have q6:=C.row _ jN;have q8:=U.trans k9;clear O)
    |(go_at_call 31;refine(h2.go H2.o (C.al E _)).mono ?_;rintro _ w4 ⟨rfl,r5,k2,h8⟩;obtain⟨Y,q7⟩:=h8.loc (jnC w3 _) np q6;have k5:=q8.trans ((Fr.al C E _).trans h8);clear C)
    |(go_at_call 98;refine(jtQ f2 E k2).mono ?_;rintro _ w5 ⟨⟨u5,rfl⟩,q4,Z⟩;obtain⟨B,r4⟩:=Z.loc Y np q7;have r2:=k5.trans Z;have c0:=jmp B 0 rfl;have c1:=jmp B 1 rfl;have c2:=jmp B 2 rfl;have c3:=jmp B 3 rfl;clear k2 Y B)
    |(go_at_call 88;refine(jsJ (k:=20) FA E q4).mono ?_;rintro _ w6 ⟨rfl,k8,q9,r1⟩))
   go_roundg k
   case measure=>omega
   case rel=>exact⟨_,_,k8,rfl,by omega,q5.o,q9,r2.trans r1⟩
  .rw[if_pos (by simpa using hk)]at A
   obtain⟨_,rfl,rfl⟩:=joi A;have hb:=jnE hk;clear A hk
   go_wp2_with (go_at_call 61;refine(jn0 h7.o E HM.o).mono ?_;rintro _ w2 ⟨rfl,O,R⟩;have U:=HF.o.trans R)
   go_ret;exact⟨rfl,K,O,U⟩
end
theorem Tryz.infK:(Tryz.prog.info? 3).map (fun i=>(i.zero,i.size,i.bytes))=some (some (.int .i64 0),1,8):=by kernel_rfl
theorem Tryz.undK:Tryz.prog.underlying 56=some (.slice 3):=by kernel_rfl
section
variable {p lb cap base n:Nat}{N:Int}{L:List Tok}
theorem Fr.app {w0 w A:World}{r B:Option Nat}{kv:Value}(h:Fr p r B w0 w) (F:p<w0.heap.size) (hk:∀b,kv.ownBlock=some b->w0.heap.size<=b) (C:∀b,b<w.heap.size->kv.ownBlock≠some b->A.heap[b]? =w.heap[b]?) (hs:w.heap.size<=A.heap.size) (E:Below w0.heap.size w A):Fr p r B w0 A:=
 ⟨h.below.trans (E.mono (Ug F)),Ym h.size hs,fun b h1 h2 h3=>(C b (Yj h1 h.size) (fun h4=>by have:=hk b h4;omega)).trans (h.rest b h1 h2 h3),h.row⟩
theorem jvL {w:World}{A m:Nat}{row:Option Nat}{D:Nat->Prop}{v:Value}{ks:List Int}{b:Int}(B:ks.length=m) (h:w.ownsRow A 3 1 v (m+1) (ks.map (Value.int .i64) ++[.int .i64 b])) (hd:∀b,v.ownBlock=some b->row≠some b/\¬D b):KdR w A row D v (ks ++[b]):=by
 refine⟨?_,hd⟩;rw[Km,Yg,B];exact h
set_option maxRecDepth 100000 in
theorem jDK (E:PE p lb cap base L) (h1:WkM p lb cap base N L n 129 .operand) (kk c:Nat) (hc:c<=3):Wk p lb cap base N L (n+1) 128 #[.pointer (some ⟨p,0,none⟩),.int .i64 (kk:Nat),.int .i64 (c:Nat)] (.pref kk c):=by
 intro w q pv x q' D F U;obtain⟨H,k,hk,A⟩:=jop F;cases hk;simp only[jm1]at A
 obtain⟨t,ht⟩:∃t,q.word L=t:=⟨_,rfl⟩
 rw[ht]at A;obtain⟨tk,tp,tn,ts,q4,g1,g2,-,-⟩:=joY t;have k7:Hid (cwV (q.word L)= .agg #[.int .i64 (tk:Nat),.int .i64 (tp:Nat),.int .i64 tn,.string ts]):=by rw[ht];exact q4
 have HT:Hid (tk=t.k/\tp=t.p):=⟨g1,g2⟩
 have q8:=jH U;have q6:=jH A;have F0:q.S.next<=900000:=by have:=H.1;omega
 have k2:=U.lt E;have k9:=U.bs;obtain⟨i0,v2,r3,v5,r7⟩:=info_parts Tryz.infK;clear F U H A q4 g1 g2 ht
 go_enter Tryz.func128,Tryz.ntmps128
 go_wp2_with (go_at_call 67;refine(jo9 k7.o F0 E q8.o).mono ?_;rintro _ O ⟨rfl,q5,h9⟩)
 have x2:=h9.size;have Y:=jH q5;have q9:=jH h9;clear q5 h9 q8
 go_loopg [8] n (fun gh v (wr:World)=>∃(ks:List Int) (qq:Q) (B:Value),gh<=n/\pr L N gh (.prefL kk c t ks) qq=some (x,q')/\ks.length<=c/\KdR wr w.heap.size B.ownBlock D v ks/\PM wr p lb cap base N L qq B (DB D v)/\Kp p pv B w wr/\wr.heap[O.heap.size]? =some (.cells #[.int .i64 (tk:Nat),.int .i64 (tp:Nat),.int .i64 tn,.string ts] 90 (0,0))/\B.ownBlock≠some O.heap.size/\v.ownBlock≠some O.heap.size)
 case atStart=>
  have I:=Y.o.al E (.cells #[.int .i64 (tk:Nat),.int .i64 (tp:Nat),.int .i64 tn,.string ts] 90);refine⟨[],q.take,pv,jN,q6.o,by simp,jqi I (by rw[Ya];omega) [] (by simp) rfl (by rw[Ya]) rfl,I.alD E _ (by rw[Ya]),q9.o.trans ((Fr.al Y.o E _).trans (Fr.al I E _)),jny (jnC O _),Y.o.row _ jN,?_⟩;intro h;simp[Value.ownBlock]at h
 case round=>
  obtain⟨ks,qq,B,x1,F,r5,h2,hm,hf,W,r2,h6⟩:=hrel;obtain⟨H,k,hk,A⟩:=jop F;subst hk;simp only[jm1]at A;obtain⟨av,cv,rfl⟩:=joG h2.1
  obtain⟨m,C⟩:∃m,ks.length=m:=⟨_,rfl⟩
  have k1:=jH C;have h8:Hid (KdR wr w.heap.size B.ownBlock D (.slice av m cv) ks):=by rw[C]at h2;exact h2
  have HM:Hid (PM wr p lb cap base N L qq B (DB D (.slice av m cv))):=by rw[C]at hm;exact hm
  have HF:=jH hf
  have h0:Hid (wr.heap[O.heap.size]? =some (.cells #[.int .i64 (tk:Nat),.int .i64 (tp:Nat),.int .i64 tn,.string ts] 90 (0,0))/\B.ownBlock≠some O.heap.size/\(Value.slice av m cv).ownBlock≠some O.heap.size):=⟨W,r2,by rw[C]at h6;exact h6⟩
  have v9:=hf.size;have c0:=jmp W 0 rfl;have c1:=jmp W 1 rfl;rw[C]at A r5;have x3:(ks.map (Value.int .i64)).length=m:=by simp[C]
  rw[C];clear h2 hm hf W r2 h6 F C q6 Y q9 k7
  by_cases k8:m<c
  .have hd:decide ((m:Int)<(c:Int))=true:=by simp;omega
   rw[if_pos k8]at A;obtain⟨b,q2,e2,f2,A⟩:=jnd A;have H2:Hid (pr L N n .operand qq=some (b,q2)):=jnj (by omega) e2;have v3:=jH A;clear A e2 c0 c1 H
   go_wp2_with (first
    |(go_at_call 129;refine(h1.go H2.o HM.o).mono ?_;rintro _ w2 ⟨rfl,k4,I,R⟩;have K:=h8.o.fr R k2;have r1:KdR w2 w.heap.size k4.ownBlock D (.slice av m cv) ks:=K;rw[KdR,k1.o]at r1;have x0:=R.size)
    |(at_builtin;refine JO _ rfl (.tmp 19) (.tmp 21) 56 rfl w.heap.size 3 i0 _ 1 8 Tryz.undK v2 r3 v5 r7 rfl (by decide) _ _ _ rfl (r1.1.alloc _) _ 1 1 [.int .i64 b] rfl rfl (Ja _ _ _ _ (by simp)) ?_ ?_ ?_ ?_ ?_;(intro u hu;simp at hu;subst hu;rfl);(unfold maxLen;omega);omega;(simp;omega);intro v' w9 h4 r6 Z))
   obtain⟨h7,v7⟩:=R.loc h0.o.1 (by omega) h0.o.2.1;obtain⟨r8,r9,q7,v8,v1⟩:=I.app E K k9 (by omega) r6 h4 Z
   go_roundg k
   case measure=>omega
   case rel=>
    refine⟨ks ++[b],q2,k4,by omega,v3.o,by rw[Yg,k1.o];simp;omega,jvL k1.o h4 r9,r8,(HF.o.trans R).app k2 (fun b hb=>(K.1.lt b hb).1) q7 v8 v1,(q7 _ (lt_of_block h7) h0.o.2.2).trans h7,v7,fun h=>?_⟩;rcases Z with h3|h3
    .exact h0.o.2.2 (h3 ▸ h)
    .rw[h3,Ya]at h
     have:=lt_of_block h7;have h5:=Uf h;omega
  .have hd:decide ((m:Int)<(c:Int))=false:=by simp;omega
   rw[if_neg k8]at A;obtain⟨fa,rfl,rfl⟩:=jnR A;have v6:Hid (KdR wr base B.ownBlock D (.slice av m cv) ks):=h8.o.lower k9;have v0:Hid (PM wr p lb cap base N L qq B D):=HM.o.weak (fun b hb=>.inl hb);clear A H HM h8
   go_wp2_with (go_at_call 85;refine(jpt (k:=kk) (a:=tp) (wd:=tk) (nm:=0) (ns:=[]) (ks:=ks) fa E v0.o (jqg _ _ _ _) v6.o).mono ?_;rintro _ w7 ⟨rfl,r4,k5,v4⟩)
   rw[HT.o.1,HT.o.2]at k5;go_ret;exact⟨rfl,r4,k5,HF.o.trans v4⟩
end
section
variable {p lb cap base n:Nat}{N:Int}{L:List Tok}
theorem jB1 {N:Int}{A:Md->Q->Rt}{ks:List Int}{q:Q}(h:ks.length<=4/\job (q.kind L)=true):jm1 L N A (.callL ks) q=bnd (A .operand q) (fun b q1=>A (.callL (ks ++[b])) q1):=if_pos h
theorem jID {N:Int}{B:Md->Q->Rt}{a:Int}{kt:List Int}{q q':Q}{x:Int}(h:¬((a ::kt).length<=4/\job (q.kind L)=true)) (he:jm1 L N B (.callL (a ::kt)) q=some (x,q')) :
 (kt=[]/\q.fine/\x=a/\q'=q)\/(kt≠[]/\-1<=a/\a<=100000/\q.fine/\x=q.ps.length/\q'=q.add ⟨19,joO q.ps a,0,0,[],a ::kt⟩):=by
 cases kt with
 |nil=>
  have A:out a q=some (x,q'):=(if_neg h).symm.trans he;exact .inl ⟨rfl,joi A⟩
 |cons b kt=>
  have A:(if -1<=a/\a<=100000 then jnu q ⟨19,joO q.ps a,0,0,[],a ::b ::kt⟩ else none)=some (x,q'):=(if_neg h).symm.trans he
  split at A
  .rename_i h2
   exact .inr ⟨by simp,h2.1,h2.2,jnR A⟩
  .cases A
theorem jB0 {N:Int}{A:Md->Q->Rt}{t:Tok}{ks:List Int}{q:Q}(h:ks.length<6/\q.kind L=25):jm1 L N A (.tupL t ks) q=bnd (A .expr q.take) (fun b q1=>A (.tupL t (ks ++[b])) q1):=if_pos h
theorem jBr {N:Int}{B:Md->Q->Rt}{t:Tok}{a:Int}{kt:List Int}{q q':Q}{x:Int}(h:¬((a ::kt).length<6/\q.kind L=25)) (he:jm1 L N B (.tupL t (a ::kt)) q=some (x,q')) :
 (kt=[]/\(q.finish L).fine/\x=a/\q'=q.finish L)\/(kt≠[]/\(q.finish L).fine/\x=q.ps.length/\q'=(q.finish L).add ⟨7,t.p,0,0,[],a ::kt⟩):=by
 cases kt with
 |nil=>
  have A:out a (q.finish L)=some (x,q'):=(if_neg h).symm.trans he;exact .inl ⟨rfl,joi A⟩
 |cons b kt=>
  have A:jnu (q.finish L) ⟨7,t.p,0,0,[],a ::b ::kt⟩=some (x,q'):=(if_neg h).symm.trans he;exact .inr ⟨by simp,jnR A⟩
set_option maxRecDepth 100000 in
theorem jIy (E:PE p lb cap base L) (h1:WkM p lb cap base N L n 129 .operand) (h2:∀(kk c:Nat),c<=3->Wk p lb cap base N L n 128 #[.pointer (some ⟨p,0,none⟩),.int .i64 (kk:Nat),.int .i64 (c:Nat)] (.pref kk c)):WkM p lb cap base N L (n+1) 127 .call:=by
 intro w q pv x q' D h6 q4;obtain⟨q9,k,hk,A⟩:=jop h6;cases hk;simp only[jm1]at A
 obtain⟨kk,I⟩:∃kk,q.kind L=kk:=⟨_,rfl⟩
 rw[I]at A;have Z:=jH I;have h0:=jH q4;have r1:=q4.lt E;have v4:=q4.bs;clear I h6 q4 q9
 by_cases k7:kk=14
 .subst k7
  rw[if_pos rfl]at A;have Y:=jH A;clear A
  go_enter Tryz.func127,Tryz.ntmps127
  go_wp2_with (first
   |(go_at_call 61;refine(jn0 Z.o E h0.o).mono ?_;rintro _ w1 ⟨rfl,C,H⟩)
   |(go_at_call 128;refine((h2 21 1 (by omega)).go Y.o C).mono ?_;rintro _ w2 ⟨rfl,F,R,B⟩))
  go_ret;exact⟨rfl,F,R,H.trans B⟩
 rw[if_neg k7]at A;have z3:=jnE k7;clear k7
 by_cases q7:kk=15
 .subst q7
  rw[if_pos rfl]at A;have Y:=jH A;clear A
  go_enter Tryz.func127,Tryz.ntmps127
  go_wp2_with (first
   |(go_at_call 61;refine(jn0 Z.o E h0.o).mono ?_;rintro _ w1 ⟨rfl,C,H⟩)
   |(go_at_call 128;refine((h2 22 1 (by omega)).go Y.o C).mono ?_;rintro _ w2 ⟨rfl,F,R,B⟩))
  go_ret;exact⟨rfl,F,R,H.trans B⟩
 rw[if_neg q7]at A;have z6:=jnE q7;clear q7
 by_cases k8:kk=16
 .subst k8
  rw[if_pos rfl]at A;have Y:=jH A;clear A
  go_enter Tryz.func127,Tryz.ntmps127
  go_wp2_with (first
   |(go_at_call 61;refine(jn0 Z.o E h0.o).mono ?_;rintro _ w1 ⟨rfl,C,H⟩)
   |(go_at_call 128;refine((h2 23 2 (by omega)).go Y.o C).mono ?_;rintro _ w2 ⟨rfl,F,R,B⟩))
  go_ret;exact⟨rfl,F,R,H.trans B⟩
 rw[if_neg k8]at A;have z5:=jnE k8;clear k8
 by_cases k9:kk=17
 .subst k9
  rw[if_pos rfl]at A;have Y:=jH A;clear A
  go_enter Tryz.func127,Tryz.ntmps127
  go_wp2_with (first
   |(go_at_call 61;refine(jn0 Z.o E h0.o).mono ?_;rintro _ w1 ⟨rfl,C,H⟩)
   |(go_at_call 128;refine((h2 24 3 (by omega)).go Y.o C).mono ?_;rintro _ w2 ⟨rfl,F,R,B⟩))
  go_ret;exact⟨rfl,F,R,H.trans B⟩
 rw[if_neg k9]at A;have z0:=jnE k9;clear k9;obtain⟨a,q1,e1,f1,A⟩:=jnd A;have H1:=jH e1;have HS:=jH A;obtain⟨i0,y3,x4,y7,x7⟩:=info_parts Tryz.infK;clear A e1 f1
 go_enter Tryz.func127,Tryz.ntmps127
 go_wp2_with (first
  |(go_at_call 61;refine(jn0 Z.o E h0.o).mono ?_;rintro _ w0 ⟨rfl,v6,v3⟩)
  |(go_at_call 129;refine(h1.go H1.o v6).mono ?_;rintro _ w1 ⟨rfl,x9,C,H⟩))
 have v1:=v3.trans H;have y4:=v1.size;have q5:=jH C;have v7:=jH v1;clear C H h0 v6 v3 v1 Z
 go_loopg [4] n (fun gh v (wr:World)=>∃(kt:List Int) (U:Q) (K:Value),gh<=n/\pr L N gh (.callL (a ::kt)) U=some (x,q')/\(a ::kt).length<=5/\KdR wr w.heap.size K.ownBlock D v (a ::kt)/\PM wr p lb cap base N L U K (DB D v)/\Kp p pv K w wr)
 case atStart=>
  exact⟨[],q1,x9,jN,HS.o,by simp,jqi q5.o y4 [a] (by simp) rfl rfl rfl,q5.o.alD E _ rfl,v7.o.trans (Fr.al q5.o E _)⟩
 case round=>
  obtain⟨kt,U,K,z2,h6,x5,q6,hm,hf⟩:=hrel;obtain⟨q9,k,hk,A⟩:=jop h6;subst hk;obtain⟨av,cv,rfl⟩:=joG q6.1
  obtain⟨m,O⟩:∃m,(a ::kt).length=m:=⟨_,rfl⟩
  have h7:=jH O;have v5:Hid (KdR wr w.heap.size K.ownBlock D (.slice av m cv) (a ::kt)):=by rw[O]at q6;exact q6
  have HM:Hid (PM wr p lb cap base N L U K (DB D (.slice av m cv))):=by rw[O]at hm;exact hm
  have HF:=jH hf;have y9:=hf.size;have z7:((a ::kt).map (Value.int .i64)).length=m:=by rw[Ua];exact O
  have C:1<=m:=by rw[<-O];simp
  have FI:=q9;have r9:m=1↔kt=[]:=by rw[<-O];cases kt <;> simp
  have x0:=jH r9;clear r9
  obtain⟨kk,I⟩:∃kk,U.kind L=kk:=⟨_,rfl⟩
  have Z:=jH I;rw[O]at x5;rw[O];clear q6 hm hf h6 O HS q5 v7 q9
  by_cases k2:m<=4/\job kk=true
  .have hd:decide ((m:Int)<=4)=true:=by simp;omega
   have h3:Hid (job (U.kind L)=true):=by show _=_;rw[I];exact k2.2
   rw[jB1 ⟨by rw[h7.o];exact k2.1,h3.o⟩]at A;obtain⟨b,q2,e2,f2,A⟩:=jnd A;have H2:Hid (pr L N n .operand U=some (b,q2)):=jnj (by omega) e2;have y6:=jH A;clear A e2 I
   go_wp2_with (first
    |(go_at_call 130;refine(jwI h3.o E HM.o).mono ?_;rintro _ w6 ⟨rfl,h5,W⟩;have h8:=HF.o.trans W;have r5:=v5.o.fr W r1;have z4:=W.size;clear HM)
    |(go_at_call 129;refine(h1.go H2.o h5).mono ?_;rintro _ w2 ⟨rfl,F,R,B⟩;have k5:=r5.fr B r1;have v8:KdR w2 w.heap.size F.ownBlock D (.slice av m cv) (a ::kt):=k5;rw[KdR,h7.o]at v8;have z1:=B.size;have x8:=h8.trans B)
    |(at_builtin;refine JO _ rfl (.tmp 38) (.tmp 40) 56 rfl w.heap.size 3 i0 _ 1 8 Tryz.undK y3 x4 y7 x7 rfl (by decide) _ _ _ rfl (v8.1.alloc _) _ 1 1 [.int .i64 b] rfl rfl (Ja _ _ _ _ (by simp)) ?_ ?_ ?_ ?_ ?_;(intro u hu;simp at hu;subst hu;rfl);(unfold maxLen;omega);omega;(simp;omega);intro v' w9 q8 x6 v2))
   obtain⟨y0,y1,y5,y8,y2⟩:=R.app E k5 v4 (by omega) x6 q8 v2
   go_roundg k
   case measure=>omega
   case rel=>
    refine⟨kt ++[b],q2,F,by omega,y6.o,by have:=h7.o;simp at this ⊢;omega,jvL (ks:=a ::kt) h7.o q8 y1,y0,x8.app r1 (fun b hb=>(k5.1.lt b hb).1) y5 y8 y2⟩
  .have hno:¬((a ::kt).length<=4/\job (U.kind L)=true):=by rw[h7.o,I];exact k2
   have x3:=jID hno A;have x1:Hid (KdR wr base K.ownBlock D (.slice av m cv) (a ::kt)):=v5.o.lower v4;have h9:Hid (PM wr p lb cap base N L U K D):=HM.o.weak (fun b hb=>.inl hb)
   have r6:Hid (m<=4->job (U.kind L)=false):=fun h4=>by
    rw[I]
    cases hc :job kk with
    |false=>rfl
    |true=>exact absurd ⟨h4,hc⟩ k2
   clear A hno k2 HM I
   rcases x3 with⟨k4,_,rfl,rfl⟩|⟨k4,v9,x2,_,rfl,rfl⟩
   .have hmm:m=1:=x0.o.2 k4
    subst hmm;clear k4;have h3:Hid (job (q'.kind L)=false):=r6.o (by omega)
    go_wp2_with (go_at_call 130;refine(jwI h3.o E h9.o).mono ?_;rintro _ w6 ⟨rfl,h5,W⟩;have h8:=HF.o.trans W)
    go_ret;exact⟨rfl,K,h5,h8⟩
   .have hmb:((m:Int) == (1:Int))=false:=by
     have:m≠1:=fun h=>k4 (x0.o.1 h);simp;omega
    clear k4
    by_cases h4:m<=4
    .have hd:decide ((m:Int)<=4)=true:=by simp;omega
     have h3:Hid (job (U.kind L)=false):=r6.o h4
     go_wp2_with (first
      |(go_at_call 130;refine(jwI h3.o E h9.o).mono ?_;rintro _ w6 ⟨rfl,h5,W⟩;have h8:=HF.o.trans W;have r5:=x1.o.fr W E.pb;clear h9)
      |(go_at_call 131;refine(jye v9 x2 FI E h5).mono ?_;rintro _ w7 ⟨rfl,r2,k1⟩;have r7:=h8.trans k1;have r4:=r5.fr k1 E.pb;clear h5)
      |(go_at_call 85;refine(jpt (k:=19) (a:=joO U.ps a) (wd:=0) (nm:=0) (ns:=[]) (ks:=a ::kt) FI E r2 (jqg _ _ _ _) r4).mono ?_;rintro _ w8 ⟨rfl,r3,v0,r8⟩))
     go_ret;exact⟨rfl,r3,v0,r7.trans r8⟩
    .have hd:decide ((m:Int)<=4)=false:=by simp;omega
     go_wp2_with (first
      |(go_at_call 131;refine(jye v9 x2 FI E h9.o).mono ?_;rintro _ w7 ⟨rfl,r2,k1⟩;have r7:=HF.o.trans k1;have r4:=x1.o.fr k1 E.pb;clear h9)
      |(go_at_call 85;refine(jpt (k:=19) (a:=joO U.ps a) (wd:=0) (nm:=0) (ns:=[]) (ks:=a ::kt) FI E r2 (jqg _ _ _ _) r4).mono ?_;rintro _ w8 ⟨rfl,r3,v0,r8⟩))
     go_ret;exact⟨rfl,r3,v0,r7.trans r8⟩
end
section
variable {p lb cap base n:Nat}{N:Int}{L:List Tok}
theorem jGy {w:World}{q:Q}{pv:Value}{D:Nat->Prop}(B:q.S.next<=900000/\-900000<=q.S.opn/\q.S.opn<=900000) (E:PE p lb cap base L) (h:PM w p lb cap base N L q pv D) :
 Calls Tryz.prog 98 #[.pointer (some ⟨p,0,none⟩)] w fun e w'=>(∃u,e= .returned u)/\PM w' p lb cap base N L (q.finish L) pv D/\Kp p pv pv w w':=by
 obtain⟨K,O,I⟩:=B;refine(jtP (S:=q.S.row pv) (Ym E.len (by omega)) (show q.S.next<=_ by omega) (show _<=q.S.opn by omega) (show q.S.opn<=_ by omega) h.blk E.cap h.cw E.lbp).mono ?_;rintro _ H ⟨F,C,A⟩;rw[jv9]at C;exact⟨F,h.step E C A,Fr.only A A.below.size⟩
set_option maxRecDepth 100000 in
theorem jIJ (E:PE p lb cap base L) (h1:WkM p lb cap base N L n 31 .expr):WkM p lb cap base N L (n+1) 133 .brk:=by
 intro w q pv x q' D k8 v2;obtain⟨k1,k,hk,A⟩:=jop k8;cases hk;simp only[jm1]at A
 obtain⟨t,ht⟩:∃t,q.begW L N 23=t:=⟨_,rfl⟩
 rw[ht]at A;obtain⟨tk,tp,tn,ts,y9,g1,g2,-,-⟩:=joY t;have y8:Hid (cwV (q.begW L N 23)= .agg #[.int .i64 (tk:Nat),.int .i64 (tp:Nat),.int .i64 tn,.string ts]):=by rw[ht];exact y9
 have HT:=jH g2;have v6:=jH v2;have q4:=k1;have y2:Hid q.fine:=k1;have r7:=v2.lt E;have x8:=v2.bs
 obtain⟨kk,Y⟩:∃kk,(q.beg L N 23).kind L=kk:=⟨_,rfl⟩
 rw[Y]at A;have U:=jH Y;obtain⟨i0,K8,z7,N0,K4⟩:=info_parts Tryz.infK;clear Y k8 v2 k1 y9 g1 g2 ht
 by_cases r9:kk=24
 .subst r9
  rw[if_pos rfl]at A;obtain⟨FF,rfl,rfl⟩:=jnR A
  have FB:(q.beg L N 23).S.next<=900000/\-900000<=(q.beg L N 23).S.opn/\(q.beg L N 23).S.opn<=900000:=by
   have h6:(q.beg L N 23).S.opn=q.S.opn+1:=jAp L N 23 q.S;have h7:=q4.2.1;have h8:=q4.2.2.1;have h9:(q.beg L N 23).S.next<=500001:=jwE (L:=L) (N:=N) (k:=23) (M:=500000) (S:=q.S) (by have:=E.len;omega) q4.1;exact⟨by omega,by omega,by omega⟩
  clear A q4;have q4:=True.intro
  go_enter Tryz.func133,Tryz.ntmps133
  go_wp2_with (first
   |(go_at_call 97;refine(jwF y8.o y2.o E v6.o).mono ?_;rintro _ Z ⟨rfl,B,r1⟩;have np:=Nat.ne_of_gt (B.lt E);have v9:=B.row _ jN;clear v6)
   |(go_at_call 61;refine(jn0 U.o E (B.al E _)).mono ?_;rintro _ w2 ⟨rfl,h2,F⟩;have v4:=r1.trans ((Fr.al B E _).trans F);obtain⟨R,k7⟩:=F.loc (jnC Z _) np v9;clear B)
   |(go_at_call 98;refine(jGy FB E h2).mono ?_;rintro _ w3 ⟨⟨u3,rfl⟩,r8,k2⟩;have r4:=v4.trans k2;obtain⟨h4,x1⟩:=k2.loc R np k7;have c1:=jmp h4 1 rfl;clear h2 R h4)
   |(go_at_call 85;refine(jpt (k:=6) (a:=tp) (wd:=0) (nm:=0) (ns:=[]) (ks:=[]) FF E r8 (jqg _ _ _ _) (jvK _ _ _ _)).mono ?_;rintro _ w4 ⟨rfl,H5,x7,K9⟩))
  rw[HT.o]at x7;go_ret;exact⟨rfl,H5,x7,r4.trans K9⟩
 rw[if_neg r9]at A;have N4:=jnE r9;obtain⟨a,q1,e1,f1,A⟩:=jnd A;have H1:=jH e1;have HS:=jH A;clear A e1 f1 r9
 go_enter Tryz.func133,Tryz.ntmps133
 go_wp2_with (first
  |(go_at_call 97;refine(jwF y8.o y2.o E v6.o).mono ?_;rintro _ Z ⟨rfl,B,r1⟩;have np:=Nat.ne_of_gt (B.lt E);have v9:=B.row _ jN;clear v6)
  |(go_at_call 61;refine(jn0 U.o E (B.al E _)).mono ?_;rintro _ w2 ⟨rfl,h2,F⟩;have v4:=r1.trans ((Fr.al B E _).trans F);obtain⟨R,k7⟩:=F.loc (jnC Z _) np v9;have N9:=r1.size;have N1:=lt_of_block R;clear B)
  |(go_at_call 31;refine(h1.go H1.o h2).mono ?_;rintro _ w3 ⟨rfl,y4,r8,k2⟩;have r4:=v4.trans k2;obtain⟨h4,x1⟩:=k2.loc R np k7;clear h2 R))
 have K6:=r4.size;have N2:=lt_of_block h4;have v3:=jH r8;have y1:=jH r4
 have x3:Hid (w3.heap[Z.heap.size]? =some (.cells #[.int .i64 (tk:Nat),.int .i64 (tp:Nat),.int .i64 tn,.string ts] 90 (0,0))/\y4.ownBlock≠some Z.heap.size):=⟨h4,x1⟩
 clear r8 r4 h4 x1 v4 k2 r1 F v9 k7 U
 go_loopg [5] n (fun gh v (wr:World)=>∃(kt:List Int) (qq:Q) (H:Value),gh<=n/\pr L N gh (.tupL t (a ::kt)) qq=some (x,q')/\(a ::kt).length<=6/\KdR wr w.heap.size H.ownBlock D v (a ::kt)/\PM wr p lb cap base N L qq H (DB D v)/\Kp p pv H w wr/\wr.heap[Z.heap.size]? =some (.cells #[.int .i64 (tk:Nat),.int .i64 (tp:Nat),.int .i64 tn,.string ts] 90 (0,0))/\H.ownBlock≠some Z.heap.size/\v.ownBlock≠some Z.heap.size)
 case atStart=>
  refine⟨[],q1,y4,jN,HS.o,by simp,jqi v3.o K6 [a] (by simp) rfl rfl rfl,v3.o.alD E _ rfl,y1.o.trans (Fr.al v3.o E _),jny x3.o.1,x3.o.2,fun h=>?_⟩;have h5:w3.heap.size=Z.heap.size:=by simpa[Value.ownBlock] using h
  omega
 case round=>
  obtain⟨kt,qq,H,N7,k8,z8,v7,hm,hf,z0,z4,x2⟩:=hrel;obtain⟨k1,k,hk,A⟩:=jop k8;subst hk;obtain⟨av,cv,rfl⟩:=joG v7.1
  obtain⟨m,O⟩:∃m,(a ::kt).length=m:=⟨_,rfl⟩
  have r2:=jH O;have x9:Hid (KdR wr w.heap.size H.ownBlock D (.slice av m cv) (a ::kt)):=by rw[O]at v7;exact v7
  have HM:Hid (PM wr p lb cap base N L qq H (DB D (.slice av m cv))):=by rw[O]at hm;exact hm
  have HF:=jH hf;have N5:=hf.size;have x7:((a ::kt).map (Value.int .i64)).length=m:=by rw[Ua];exact O
  have B:1<=m:=by rw[<-O];simp
  have FI:=k1;have x5:m=1↔kt=[]:=by rw[<-O];cases kt <;> simp
  have y3:=jH x5;clear x5
  obtain⟨kk,Y⟩:∃kk,qq.kind L=kk:=⟨_,rfl⟩
  have U:=jH Y;rw[O]at z8;rw[O]
  have K:Hid (wr.heap[Z.heap.size]? =some (.cells #[.int .i64 (tk:Nat),.int .i64 (tp:Nat),.int .i64 tn,.string ts] 90 (0,0))/\H.ownBlock≠some Z.heap.size/\(Value.slice av m cv).ownBlock≠some Z.heap.size):=⟨z0,z4,by rw[O]at x2;exact x2⟩
  clear v7 hm hf k8 O HS v3 y1 k1 z0 z4 x2 x3
  by_cases r5:m<6/\kk=25
  .obtain⟨h0,rfl⟩:=r5
   have hd:decide ((m:Int)<6)=true:=by simp;omega
   rw[jB0 ⟨by rw[r2.o];exact h0,U.o⟩]at A;obtain⟨b,q2,e2,f2,A⟩:=jnd A;obtain⟨wk,wp,wn,ws,y7,-⟩:=joY (qq.word L);have H9:=jH y7;have H2:Hid (pr L N n .expr qq.take=some (b,q2)):=jnj (by omega) e2;have K0:=jH A;have FQ:qq.S.next<=900000:=by have:=FI.1;omega
   clear A e2 Y y7
   go_wp2_with (first
    |(go_at_call 61;refine(jn0 U.o E HM.o).mono ?_;rintro _ w5 ⟨rfl,y0,v0⟩;have K1:=HF.o.trans v0;have H0:=x9.o.fr v0 r7;have N3:=v0.size;obtain⟨y6,K5⟩:=v0.loc K.o.1 (by omega) K.o.2.1;clear HM)
    |(go_at_call 67;refine(jo9 H9.o FQ E y0).mono ?_;rintro _ w6 ⟨rfl,z6,C⟩;have q5:=K1.trans C;have k9:=H0.fr C r7;have N8:=C.size;obtain⟨k4,r3⟩:=C.loc y6 (by omega) K5;clear y0)
    |(go_at_call 31;refine(h1.go H2.o z6).mono ?_;rintro _ H4 ⟨rfl,y5,h2,F⟩;have r6:=k9.fr F r7;have z3:KdR H4 w.heap.size y5.ownBlock D (.slice av m cv) (a ::kt):=r6;rw[KdR,r2.o]at z3;have N6:=F.size;have H3:=q5.trans F;obtain⟨R,k7⟩:=F.loc k4 (by omega) r3;clear y6 k4)
    |(at_builtin;refine JO _ rfl (.tmp 35) (.tmp 37) 56 rfl w.heap.size 3 i0 _ 1 8 Tryz.undK K8 z7 N0 K4 rfl (by decide) _ _ _ rfl (z3.1.alloc _) _ 1 1 [.int .i64 b] rfl rfl (Ja _ _ _ _ (by simp)) ?_ ?_ ?_ ?_ ?_;(intro u hu;simp at hu;subst hu;rfl);(unfold maxLen;omega);omega;(simp;omega);intro v' w9 v8 z9 v5))
   obtain⟨K7,H6,z1,K2,H7⟩:=h2.app E r6 x8 (by omega) z9 v8 v5
   go_roundg k
   case measure=>omega
   case rel=>
    refine⟨kt ++[b],q2,y5,by omega,K0.o,by have:=r2.o;simp at this ⊢;omega,jvL (ks:=a ::kt) r2.o v8 H6,K7,H3.app r7 (fun b hb=>(r6.1.lt b hb).1) z1 K2 H7,(z1 _ (lt_of_block R) K.o.2.2).trans R,k7,fun h=>?_⟩;rcases v5 with h3|h3
    .exact K.o.2.2 (h3 ▸ h)
    .rw[h3,Ya]at h
     have:=lt_of_block R;have h5:=Uf h;omega
  .have hno:¬((a ::kt).length<6/\qq.kind L=25):=by rw[r2.o,Y];exact r5
   have z5:=jBr hno A;have x6:Hid (KdR wr base H.ownBlock D (.slice av m cv) (a ::kt)):=x9.o.lower x8;have k5:Hid (PM wr p lb cap base N L qq H D):=HM.o.weak (fun b hb=>.inl hb);clear A hno HM Y
   rcases z5 with⟨q8,FF,rfl,rfl⟩|⟨q8,FF,rfl,rfl⟩
   .have hmm:m=1:=y3.o.2 q8
    subst hmm;have H8:((kk:Int) == (25:Int))=false:=by simp;omega
    clear q8 r5
    go_wp2_with (first
     |(go_at_call 61;refine(jn0 U.o E k5.o).mono ?_;rintro _ w6 ⟨rfl,h0,C⟩;obtain⟨k4,r3⟩:=C.loc K.o.1 (by omega) K.o.2.1;have q5:=HF.o.trans C;have k9:=x6.o.fr C E.pb;clear k5)
     |(go_at_call 98;refine(jtQ FI E h0).mono ?_;rintro _ w7 ⟨⟨u7,rfl⟩,q9,I⟩;obtain⟨W,z2⟩:=I.loc k4 (by omega) r3;have q6:=q5.trans I;have v1:=k9.fr I E.pb;have c1:=jmp W 1 rfl;clear W;clear h0))
    go_ret;exact⟨rfl,H,q9,q6⟩
   .have hmb:((m:Int) == (1:Int))=false:=by
     have:m≠1:=fun h=>q8 (y3.o.1 h);simp;omega
    clear q8
    by_cases h6:m<6
    .have hd:decide ((m:Int)<6)=true:=by simp;omega
     have H8:((kk:Int) == (25:Int))=false:=by simp;omega
     clear r5
     go_wp2_with (first
      |(go_at_call 61;refine(jn0 U.o E k5.o).mono ?_;rintro _ w6 ⟨rfl,h0,C⟩;obtain⟨k4,r3⟩:=C.loc K.o.1 (by omega) K.o.2.1;have q5:=HF.o.trans C;have k9:=x6.o.fr C E.pb;clear k5)
      |(go_at_call 98;refine(jtQ FI E h0).mono ?_;rintro _ w7 ⟨⟨u7,rfl⟩,q9,I⟩;obtain⟨W,z2⟩:=I.loc k4 (by omega) r3;have q6:=q5.trans I;have v1:=k9.fr I E.pb;have c1:=jmp W 1 rfl;clear W;clear h0)
      |(go_at_call 85;refine(jpt (k:=7) (a:=tp) (wd:=0) (nm:=0) (ns:=[]) (ks:=a ::kt) FF E q9 (jqg _ _ _ _) v1).mono ?_;rintro _ w8 ⟨rfl,x0,q7,x4⟩))
     rw[HT.o]at q7;go_ret;exact⟨rfl,x0,q7,q6.trans x4⟩
    .have hd:decide ((m:Int)<6)=false:=by simp;omega
     clear r5
     go_wp2_with (first
      |(go_at_call 98;refine(jtQ FI E k5.o).mono ?_;rintro _ w7 ⟨⟨u7,rfl⟩,q9,I⟩;obtain⟨W,z2⟩:=I.loc K.o.1 (by omega) K.o.2.1;have q6:=HF.o.trans I;have v1:=x6.o.fr I E.pb;have c1:=jmp W 1 rfl;clear W;clear k5)
      |(go_at_call 85;refine(jpt (k:=7) (a:=tp) (wd:=0) (nm:=0) (ns:=[]) (ks:=a ::kt) FF E q9 (jqg _ _ _ _) v1).mono ?_;rintro _ w8 ⟨rfl,x0,q7,x4⟩))
     rw[HT.o]at q7;go_ret;exact⟨rfl,x0,q7,q6.trans x4⟩
set_option maxRecDepth 100000 in
theorem jI2 (E:PE p lb cap base L) (h1:WkM p lb cap base N L n 133 .brk) (h2:∀(kk c:Nat),c<=3->Wk p lb cap base N L n 128 #[.pointer (some ⟨p,0,none⟩),.int .i64 (kk:Nat),.int .i64 (c:Nat)] (.pref kk c)):WkM p lb cap base N L (n+1) 132 .atom:=by
 intro w q pv x q' D k5 k8;obtain⟨k7,k,hk,A⟩:=jop k5;cases hk;simp only[jm1]at A
 obtain⟨kk,h7⟩:∃kk,q.kind L=kk:=⟨_,rfl⟩
 rw[h7]at A;have U:=jH h7;have H:=jH k8;have F0:q.S.next<=900000:=by have:=k7.1;omega
 clear h7 k5 k8 k7
 by_cases k1:kk=1
 .subst k1
  rw[if_pos rfl]at A;obtain⟨tk,tp,tn,ts,W,g1,g2,g3,g4⟩:=joY (q.word L);obtain⟨FF,rfl,rfl⟩:=jnR A;rw[<-g2,<-g3];have h6:=jH W;clear A W g1 g2 g3 g4
  go_enter Tryz.func132,Tryz.ntmps132
  go_wp2_with (first
   |(go_at_call 61;refine(jn0 U.o E H.o).mono ?_;rintro _ w1 ⟨rfl,B,C⟩;clear H)
   |(go_at_call 67;refine(jo9 h6.o F0 E B).mono ?_;rintro _ w3 ⟨rfl,R,k4⟩;have h9:=C.trans k4;clear B)
   |(go_at_call 85;refine(jpt (k:=1) (a:=tp) (wd:=0) (nm:=tn) (ns:=[]) (ks:=[]) FF E (R.al E _) (jqg _ _ _ _) (jvK _ _ _ _)).mono ?_;rintro _ w7 ⟨rfl,h4,h5,h8⟩))
  go_ret;exact⟨rfl,h4,h5,h9.trans ((Fr.al R E _).trans h8)⟩
 rw[if_neg k1]at A;have b1:=jnE k1;clear k1
 by_cases k2:kk=2
 .subst k2
  rw[if_pos rfl]at A;obtain⟨tk,tp,tn,ts,W,g1,g2,g3,g4⟩:=joY (q.word L);obtain⟨FF,rfl,rfl⟩:=jnR A;rw[<-g2,<-g4];have h6:=jH W;clear A W g1 g2 g3 g4
  go_enter Tryz.func132,Tryz.ntmps132
  go_wp2_with (first
   |(go_at_call 61;refine(jn0 U.o E H.o).mono ?_;rintro _ w1 ⟨rfl,B,C⟩;clear H)
   |(go_at_call 67;refine(jo9 h6.o F0 E B).mono ?_;rintro _ w3 ⟨rfl,R,k4⟩;have h9:=C.trans k4;clear B)
   |(go_at_call 85;refine(jpt (k:=5) (a:=tp) (wd:=0) (nm:=0) (ns:=[ts]) (ks:=[]) FF E ((R.al E _).al E _) (jyA (R.al E _) [ts] (by simp) rfl (by rw[Ya]) rfl) (jvK _ _ _ _)).mono ?_;rintro _ w7 ⟨rfl,h4,h5,h8⟩))
  go_ret;exact⟨rfl,h4,h5,h9.trans ((Fr.al R E _).trans ((Fr.al (R.al E _) E _).trans h8))⟩
 rw[if_neg k2]at A;have b2:=jnE k2;clear k2
 by_cases h0:kk=11
 .subst h0
  rw[if_pos rfl]at A;have O:=jH A;clear A
  go_enter Tryz.func132,Tryz.ntmps132
  go_wp2_with (first
   |(go_at_call 61;refine(jn0 U.o E H.o).mono ?_;rintro _ w1 ⟨rfl,B,C⟩)
   |(go_at_call 128;refine((h2 2 0 (by omega)).go O.o B).mono ?_;rintro _ w2 ⟨rfl,K,I,F⟩))
  go_ret;exact⟨rfl,K,I,C.trans F⟩
 rw[if_neg h0]at A;have q4:=jnE h0;clear h0
 by_cases h3:kk=12
 .subst h3
  rw[if_pos rfl]at A;have O:=jH A;clear A
  go_enter Tryz.func132,Tryz.ntmps132
  go_wp2_with (first
   |(go_at_call 61;refine(jn0 U.o E H.o).mono ?_;rintro _ w1 ⟨rfl,B,C⟩)
   |(go_at_call 128;refine((h2 3 0 (by omega)).go O.o B).mono ?_;rintro _ w2 ⟨rfl,K,I,F⟩))
  go_ret;exact⟨rfl,K,I,C.trans F⟩
 rw[if_neg h3]at A;have q5:=jnE h3;clear h3
 by_cases Z:kk=13
 .subst Z
  rw[if_pos rfl]at A;have O:=jH A;clear A
  go_enter Tryz.func132,Tryz.ntmps132
  go_wp2_with (first
   |(go_at_call 61;refine(jn0 U.o E H.o).mono ?_;rintro _ w1 ⟨rfl,B,C⟩)
   |(go_at_call 128;refine((h2 4 0 (by omega)).go O.o B).mono ?_;rintro _ w2 ⟨rfl,K,I,F⟩))
  go_ret;exact⟨rfl,K,I,C.trans F⟩
 rw[if_neg Z]at A;have k9:=jnE Z;clear Z
 by_cases Y:kk=23
 .subst Y
  rw[if_pos rfl]at A;have O:=jH A;clear A
  go_enter Tryz.func132,Tryz.ntmps132
  go_wp2_with (first
   |(go_at_call 61;refine(jn0 U.o E H.o).mono ?_;rintro _ w1 ⟨rfl,B,C⟩)
   |(go_at_call 133;refine(h1.go O.o B).mono ?_;rintro _ w2 ⟨rfl,K,I,F⟩))
  go_ret;exact⟨rfl,K,I,C.trans F⟩
 rw[if_neg Y]at A;have q6:=jnE Y;clear Y;obtain⟨FF,rfl,rfl⟩:=joi A;clear A
 go_enter Tryz.func132,Tryz.ntmps132
 go_wp2_with (first
  |(go_at_call 61;refine(jn0 U.o E H.o).mono ?_;rintro _ w1 ⟨rfl,B,C⟩)
  |(go_at_call 66;refine(jGI (e:=4) E B).mono ?_;rintro _ w2 ⟨⟨u2,rfl⟩,I,F⟩))
 go_ret;exact⟨rfl,pv,I,C.trans F⟩
end
end Go.Proofs.YtlpmpelnhdoboaaGreatDoor
