import Derived.Test.YtlpmpelnhdoboaaGreatDoorS06
import Derived.Test.YtlpmpelnhdoboaaGreatDoorS13
import Derived.Deep.Draws
import Derived.Deep.QuietTactic
import Derived.BigQuiet
import Derived.Deep.LoopGhost
import Derived.Deep.RegionWith
import Derived.Deep.Cut
import Derived.Deep.CutRange
import Derived.Deep.DeepCutAuto
import Derived.Handy
import Derived.Deep.AppendLies
import Derived.Deep.RegionLaw
import Derived.Deep.RegionHeld3
import Derived.Laws.OwnMore
set_option linter.unusedVariables false
set_option linter.unusedSimpArgs false
set_option maxHeartbeats 20000000
namespace Go.Proofs.YtlpmpelnhdoboaaGreatDoor
section
open Go.RowKit Sl
variable {w:World}{k:Nat}
theorem jny {o:Obj}{X:Obj}(h:w.heap[k]? =some X):(w.alloc o).heap[k]? =some X:=(Kq w o k (lt_of_block h)).trans h
def CW (w:World) (b:Nat) (L:List Tok):Prop:=∀i (h:i<L.length),w.cell? ⟨b,i*4,none⟩=some (.int .i64 L[i].k)/\w.cell? ⟨b,i*4+1,none⟩=some (.int .i64 L[i].p)/\w.cell? ⟨b,i*4+2,none⟩=some (.int .i64 L[i].n)/\w.cell? ⟨b,i*4+3,none⟩=some (.string (jpH L[i].k L[i].t))
variable {w':World}{B b:Nat}{L:List Tok}
theorem CW.below (h:CW w b L) (A:Below B w w') (C:b<B):CW w' b L:=fun i hi=>by
 have:=h i hi;exact⟨(A.cell (p:=⟨b,_,none⟩) C).trans this.1,(A.cell (p:=⟨b,_,none⟩) C).trans this.2.1,(A.cell (p:=⟨b,_,none⟩) C).trans this.2.2.1,(A.cell (p:=⟨b,_,none⟩) C).trans this.2.2.2⟩
def jE (L:List Tok) (i:Nat):Tok:=L[i]?.getD ⟨0,0,0,⟨#[]⟩⟩
def cwV (t:Tok):Value:=.agg #[.int .i64 t.k,.int .i64 t.p,.int .i64 t.n,.string (jpH t.k t.t)]
structure PF where
 next :Nat
 opn:Int
 pv:Value
 err:Int
 at':Int
def pfB (lb n cap:Nat) (N:Int) (S:PF):Obj:=.cells #[.slice (some ⟨lb,0,none⟩) n cap,.int .i64 S.next,.int .i64 S.opn,.int .i64 N,S.pv,.int .i64 S.err,.int .i64 S.at'] 95 (0,0)
variable {p lb cap:Nat}{N:Int}{S:PF}
set_option maxRecDepth 100000 in
theorem jAI (hL:L.length<=100000) (C:w.heap[p]? =some (pfB lb L.length cap N S)) (Y:L.length<=cap) (H:CW w lb L) (Z:lb<p) :
 Calls Tryz.prog 82 #[.pointer (some ⟨p,0,none⟩)] w fun e w'=>e= .returned (cwV (jE L S.next))/\Below w.heap.size w w':=by
 have h1:=lt_of_block C;have c0:=jmp C 0 rfl;have c1:=jmp C 1 rfl;simp only[Yz,Yp,List.getElem_cons_succ]at c0 c1
 obtain⟨A,K⟩:∃q,S.next=q:=⟨_,rfl⟩
 rw[K]at c1 ⊢;clear C K
 by_cases hi:A<L.length
 .obtain⟨w0,w1,w2,w3⟩:=H A hi
  have E:jE L A=L[A]:=by simp[jE,hi]
  rw[E];unfold cwV
  obtain⟨a0,R⟩:∃q:Int,(L[A].k:Int)=q:=⟨_,rfl⟩
  obtain⟨a1,I⟩:∃q:Int,(L[A].p:Int)=q:=⟨_,rfl⟩
  obtain⟨a2,U⟩:∃q:Int,(L[A].n:Int)=q:=⟨_,rfl⟩
  obtain⟨a3,O⟩:∃q,jpH L[A].k L[A].t=q:=⟨_,rfl⟩
  rw[R]at w0 ⊢;rw[I]at w1 ⊢;rw[U]at w2 ⊢;rw[O]at w3 ⊢;have F:lb<w.heap.size:=by omega
  have h3:∀o,(w.alloc o).cell? ⟨lb,A*4,none⟩=_:=fun o=>(Ke (w:=w) (a:=⟨lb,A*4,none⟩) (Kq _ o _ F)).trans w0;have h4:∀o,(w.alloc o).cell? ⟨lb,A*4+1,none⟩=_:=fun o=>(Ke (w:=w) (a:=⟨lb,A*4+1,none⟩) (Kq _ o _ F)).trans w1;have h2:∀o,(w.alloc o).cell? ⟨lb,A*4+2,none⟩=_:=fun o=>(Ke (w:=w) (a:=⟨lb,A*4+2,none⟩) (Kq _ o _ F)).trans w2;have h0:∀o,(w.alloc o).cell? ⟨lb,A*4+3,none⟩=_:=fun o=>(Ke (w:=w) (a:=⟨lb,A*4+3,none⟩) (Kq _ o _ F)).trans w3;clear H E R I U O
  go_enter Tryz.func82,Tryz.ntmps82
  go_upto_region 1 with fail
  go_region
  have hd:decide (L.length<=A)=false:=by simp;omega
  go_upto_region 3 with fail
  go_region
  go_wp2_with fail
  go_returns;exact⟨rfl,((jB.alloc jN _).drew).drew⟩
 .have E:jE L A=⟨0,0,0,⟨#[]⟩⟩:=by simp[jE,hi]
  rw[E];unfold cwV;clear H E
  go_enter Tryz.func82,Tryz.ntmps82
  go_upto_region 1 with fail
  go_region
  have hd:decide (L.length<=A)=true:=by simp;omega
  go_wp2_with fail
  go_returns;exact⟨rfl,(jB.alloc jN _).drew⟩
theorem jGs (a b c:Int) (d:ByteArray) (w:World):Sem.run Tryz.prog (Instr.field 90 (.agg #[.int .i64 a,.int .i64 b,.int .i64 c,.string d]) 0) w= .ok (.int .i64 a) w:=by kernel_rfl
theorem jGr (a b c:Int) (d:ByteArray) (w:World):Sem.run Tryz.prog (Instr.field 90 (.agg #[.int .i64 a,.int .i64 b,.int .i64 c,.string d]) 1) w= .ok (.int .i64 b) w:=by kernel_rfl
theorem jur {a0 O K:Int}{I:ByteArray}(F:cwV (jE L S.next)= .agg #[.int .i64 a0,.int .i64 O,.int .i64 K,.string I]) (R:L.length<=100000) (A:w.heap[p]? =some (pfB lb L.length cap N S)) (C:L.length<=cap) (H:CW w lb L) (E:lb<p) :
 Calls Tryz.prog 82 #[.pointer (some ⟨p,0,none⟩)] w fun e w'=>e= .returned (.agg #[.int .i64 a0,.int .i64 O,.int .i64 K,.string I])/\Below w.heap.size w w':=by
 rw[<-F];exact jAI R A C H E
theorem jr3 (t:Tok):∃a0 a1 a2 a3,cwV t= .agg #[.int .i64 a0,.int .i64 a1,.int .i64 a2,.string a3]/\a0=(t.k:Int)/\a1=(t.p:Int):=⟨_,_,_,_,rfl,rfl,rfl⟩
variable {kk:Nat}
set_option maxRecDepth 100000 in
theorem jpw (C:(jE L S.next).k=kk) (O:L.length<=100000) (A:w.heap[p]? =some (pfB lb L.length cap N S)) (F:L.length<=cap) (E:CW w lb L) (H:lb<p) :
 Calls Tryz.prog 61 #[.pointer (some ⟨p,0,none⟩)] w fun e w'=>e= .returned (.int .i64 (kk:Nat))/\Below w.heap.size w w':=by
 obtain⟨a0,a1,a2,a3,I,h0,Y⟩:=jr3 (jE L S.next);clear Y;rw[C]at h0;subst h0;have R:=jH I;have U:=jH A;have K:=jH E;clear A E I C;have h1:=jGs
 go_enter Tryz.func61,Tryz.ntmps61
 go_wp2_with (go_at_call 82;refine(jur R.o O U.o F K.o H).mono ?_;rintro _ w1 ⟨rfl,Z⟩)
 go_ret;exact⟨rfl,Z⟩
def PF.take (S:PF):PF:={S with next:=S.next+1}
def PF.fail (L:List Tok) (e:Int) (S:PF):PF:={S with next:=L.length,err:=if S.err=0 then e else S.err,at':=if S.err=0 then((jE L S.next).p:Nat) else S.at'}
def st4 (W:World) (r:Nat) (x0 x1 x2 x3:Value):World:=(((W.setCell ⟨r,0,none⟩ x0).setCell ⟨r,1,none⟩ x1).setCell ⟨r,2,none⟩ x2).setCell ⟨r,3,none⟩ x3
variable {W:World}{r:Nat}{x0 x1 x2 x3:Value}
theorem jrG {C A E F:Value}{t:TypeId}(h:W.heap[r]? =some (.cells #[C,A,E,F] t (0,0))):(st4 W r x0 x1 x2 x3).heap[r]? =some (.cells #[x0,x1,x2,x3] t (0,0)):=by
 have K:=block_setCell h 0 x0;have I:=block_setCell K 1 x1;have O:=block_setCell I 2 x2;have H:=block_setCell O 3 x3;exact H
theorem jpM (h:b≠r):(st4 W r x0 x1 x2 x3).heap[b]? =W.heap[b]?:=by
 unfold st4;rw[Kh _ _ _ _ h,Kh _ _ _ _ h,Kh _ _ _ _ h,Kh _ _ _ _ h]
theorem jrF (h:Below B w W) (A:B<=r):Below B w (st4 W r x0 x1 x2 x3):=(((h.setCell (p:=⟨r,0,none⟩) A x0).setCell (p:=⟨r,1,none⟩) A x1).setCell (p:=⟨r,2,none⟩) A x2).setCell (p:=⟨r,3,none⟩) A x3
variable {tmps:Array Value}{Q:Ending->World->Prop}
theorem jBQ (ht:tmps.getD 2 undef= .pointer (some ⟨r,0,none⟩)) (A:W.heap[r]? =some (.cells #[x0,x1,x2,x3] 90 (0,0))) (F:Q (.returned (.agg #[x0,x1,x2,x3])) W) :
 bodyPost Tryz.prog Tryz.f67 Q Exit.ret {tmps:=tmps,defers:=[]} W:=by
 have c0:=jmp A 0 rfl;have c1:=jmp A 1 rfl;have C:=jmp A 2 rfl;have E:=jmp A 3 rfl;simp only[Yz,Yp,List.getElem_cons_succ]at c0 c1 C E;have H:tmps[2]?.getD undef= .pointer (some ⟨r,0,none⟩):=by simpa using ht
 exact bodyPost_ret (v:=.agg #[x0,x1,x2,x3]) (by simp[results,Tryz.results67,go_sem,H,c0,c1,C,E]) rfl F
set_option maxRecDepth 100000 in
theorem jxA (hL:L.length<=100000) (hS:S.next<=1000000) (E:w.heap[p]? =some (pfB lb L.length cap N S)) (U:L.length<=cap) (K:CW w lb L) (h6:lb<p) :
 Calls Tryz.prog 67 #[.pointer (some ⟨p,0,none⟩)] w fun e w'=>e= .returned (cwV (jE L S.next))/\w'.heap[p]? =some (pfB lb L.length cap N S.take)/\jna p w.heap.size w w':=by
 obtain⟨a0,O,Y,I,Z,h8,k1⟩:=jr3 (jE L S.next);clear h8 k1;have h9:=jH Z;rw[Z];have k4:=lt_of_block E;have h4:=jH E;have k2:=jH K;clear E K Z
 go_enter Tryz.func67,Tryz.ntmps67
 go_wp2_with (go_at_call 82;refine(jur h9.o hL (jny h4.o) U (k2.o.below ((Ko w.heap.size w).alloc jN _) (by omega)) h6).mono ?_;rintro _ H ⟨rfl,F⟩;have h7:=F.size;rw[Ya]at h7;have C:=jng (jny h4.o) F (by simp;omega);have c1:=jol C 1 rfl;have f1:=jpD C 1;have A:=jng (jnC w _) F (by simp);have e0:=jol A 0 rfl;have e1:=jol A 1 rfl;have e2:=jol A 2 rfl;have e3:=jol A 3 rfl;have g0:=jpD A 0;have g1:=jpD A 1;have g2:=jpD A 2;have g3:=jpD A 3)
 have R:=(Kh (H.alloc (.cells #[.int .i64 a0,.int .i64 O,.int .i64 Y,.string I] 90 (0,0))) ⟨p,1,none⟩ (.int .i64 ((S.next:Int)+1)) w.heap.size (by show w.heap.size≠p;omega)).trans (jny A);have h5:=block_setCell (w:=H.alloc (.cells #[.int .i64 a0,.int .i64 O,.int .i64 Y,.string I] 90 (0,0))) (jny C) 1 (.int .i64 ((S.next:Int)+1));have hA:jna p w.heap.size w H:=jna.of ((((Ko w.heap.size w).alloc jN _)).trans (F.mono (by simp))) (by omega);have h0:Below p w ((H.alloc (.cells #[.int .i64 a0,.int .i64 O,.int .i64 Y,.string I] 90 (0,0))).setCell ⟨p,1,none⟩ (.int .i64 ((S.next:Int)+1))):=(hA.below.alloc (by omega) _).setCell jN _
 have h3:∀b,b<w.heap.size->b≠p->((H.alloc (.cells #[.int .i64 a0,.int .i64 O,.int .i64 Y,.string I] 90 (0,0))).setCell ⟨p,1,none⟩ (.int .i64 ((S.next:Int)+1))).heap[b]? =w.heap[b]?:=fun b h1 h2=>by
  rw[Kh _ _ _ _ h2,Kq _ _ _ (by omega)];exact hA.rest b h1 h2
 clear C A F hA e0 e1 e2 e3 g0 g1 g2 g3 c1 f1;generalize (H.alloc (.cells #[.int .i64 a0,.int .i64 O,.int .i64 Y,.string I] 90 (0,0))).setCell ⟨p,1,none⟩ (.int .i64 ((S.next:Int)+1))=W at R h5 h0 h3 ⊢;refine jBQ rfl (jrG R) ⟨rfl,?_,?_⟩
 .exact(jpM (by omega)).trans h5
 .exact⟨jrF h0 (by omega),fun b h1 h2=>(jpM (by omega)).trans (h3 b h1 h2)⟩
set_option maxRecDepth 100000 in
theorem fail_any {e:Int}(hL:L.length<=100000) (A:w.heap[p]? =some (pfB lb L.length cap N S)) (I:L.length<=cap) (E:CW w lb L) (K:lb<p) :
 Calls Tryz.prog 66 #[.pointer (some ⟨p,0,none⟩),.int .i64 e] w fun r w'=>(∃u,r= .returned u)/\w'.heap[p]? =some (pfB lb L.length cap N (S.fail L e))/\jna p w.heap.size w w':=by
 obtain⟨a0,a1,a2,a3,U,h1,O⟩:=jr3 (jE L S.next);have h2:=jH U;have h3:=jH O;have h5:=lt_of_block A;have R:=jH A;have h4:=jH E;have c0:=jmp A 0 rfl;have c1:=jmp A 1 rfl;have c5:=jmp A 5 rfl;have c6:=jmp A 6 rfl;have f1:=jne A 1;have f5:=jne A 5;have f6:=jne A 6;simp only[Yz,Yp,List.getElem_cons_succ]at c0 c1 c5 c6;have h6:=jGr;clear A E U h1 O
 by_cases he:S.err=0
 .have H:=jH he
  rw[he]at c5;clear he;have Y:=block_setCell R.o 5 (.int .i64 e)
  go_enter Tryz.func66,Tryz.ntmps66
  go_wp2_with (go_at_call 82;refine(jur (S:={S with err:=e}) h2.o hL Y I (h4.o.below (jsK w p 5 _) K) K).mono ?_;rintro _ w1 ⟨rfl,F⟩;have h0:=F.size;rw[size_setCell]at h0;have C:=jng Y F (by rw[size_setCell];omega);have q0:=jmp C 0 rfl;have q1:=jmp C 1 rfl;have q6:=jmp C 6 rfl;have z1:=jne C 1;have z6:=jne C 6)
  go_returns;refine⟨⟨_,rfl⟩,?_,?_⟩
  .have h:=block_setCell (block_setCell C 6 (.int .i64 a1)) 1 (.int .i64 L.length)
   have Z:S.fail L e={S with next:=L.length,err:=e,at':=a1}:=by
    unfold PF.fail;rw[if_pos H.o,if_pos H.o,<-h3.o]
   rw[Z];exact h
  .have hA:jna p w.heap.size w (w.setCell ⟨p,5,none⟩ (.int .i64 e)):=jna.sole ((jnm.refl p w).set _)
   have hB:jna p w.heap.size w w1:=hA.trans (jna.of (by have:=F;rw[size_setCell]at this;exact this) (by omega));exact hB.trans (jna.sole (((jnm.refl p w1).set _).set _))
 .have he':(S.err == 0)=false:=by simpa using he
  have H:=jH he;clear he
  go_enter Tryz.func66,Tryz.ntmps66
  go_wp2_with fail
  go_returns;refine⟨⟨_,rfl⟩,?_,jna.sole ((jnm.refl p w).set _)⟩;have h:=block_setCell R.o 1 (.int .i64 L.length)
  have Z:S.fail L e={S with next:=L.length}:=by
   unfold PF.fail;rw[if_neg H.o,if_neg H.o]
  rw[Z];exact h
abbrev zw:Obj:=.cells #[.int .i64 0,.int .i64 0,.int .i64 0,.string ⟨#[]⟩] 90 (0,0)
theorem take_at {a0 O K:Int}{I:ByteArray}(F:cwV (jE L S.next)= .agg #[.int .i64 a0,.int .i64 O,.int .i64 K,.string I]) (U:L.length<=100000) (R:S.next<=1000000) (A:w.heap[p]? =some (pfB lb L.length cap N S)) (C:L.length<=cap) (H:CW w lb L) (E:lb<p) :
 Calls Tryz.prog 67 #[.pointer (some ⟨p,0,none⟩)] w fun e w'=>e= .returned (.agg #[.int .i64 a0,.int .i64 O,.int .i64 K,.string I])/\w'.heap[p]? =some (pfB lb L.length cap N S.take)/\jna p w.heap.size w w':=by
 rw[<-F];exact jxA U R A C H E
theorem CW.only (h:CW w lb L) (C:jna p B w w') (A:lb<p):CW w' lb L:=h.below C.below A
theorem jxb (ht:tmps.getD 4 undef= .pointer (some ⟨r,0,none⟩)) (A:W.heap[r]? =some (.cells #[x0,x1,x2,x3] 90 (0,0))) (F:Q (.returned (.agg #[x0,x1,x2,x3])) W) :
 bodyPost Tryz.prog Tryz.f32 Q Exit.ret {tmps:=tmps,defers:=[]} W:=by
 have c0:=jmp A 0 rfl;have c1:=jmp A 1 rfl;have C:=jmp A 2 rfl;have E:=jmp A 3 rfl;simp only[Yz,Yp,List.getElem_cons_succ]at c0 c1 C E;have H:tmps[4]?.getD undef= .pointer (some ⟨r,0,none⟩):=by simpa using ht
 exact bodyPost_ret (v:=.agg #[x0,x1,x2,x3]) (by simp[results,Tryz.results32,go_sem,H,c0,c1,C,E]) rfl F
def PF.want (L:List Tok) (k:Nat) (S:PF):PF:=if(jE L S.next).k=k then S.take else(S.fail L 4).take
def jm8 (L:List Tok) (k:Nat) (S:PF):Tok:=if(jE L S.next).k=k then jE L S.next else jE L L.length
set_option maxRecDepth 100000 in
theorem jqI (hL:L.length<=100000) (hS:S.next<=1000000) (O:w.heap[p]? =some (pfB lb L.length cap N S)) (H:L.length<=cap) (h6:CW w lb L) (F:lb<p) :
 Calls Tryz.prog 32 #[.pointer (some ⟨p,0,none⟩),.int .i64 k] w fun e w'=>e= .returned (cwV (jm8 L k S))/\w'.heap[p]? =some (pfB lb L.length cap N (S.want L k))/\jna p w.heap.size w w':=by
 have q5:=lt_of_block O;have h3:=jH O;have R:=jH h6
 obtain⟨kk,k1⟩:∃kk,(jE L S.next).k=kk:=⟨_,rfl⟩
 have k4:=jH k1;unfold jm8 PF.want;rw[k1];clear O h6 k1
 by_cases hk:kk=k
 .subst hk
  rw[if_pos rfl,if_pos rfl];obtain⟨a0,a1,a2,a3,I,h5,h9⟩:=jr3 (jE L S.next);have h7:=jH I;rw[I];clear h5 h9 I
  go_enter Tryz.func32,Tryz.ntmps32
  go_wp2_with (first
   |(go_at_call 61;refine(jpw k4.o hL (jny h3.o) H (R.o.below ((Ko w.heap.size w).alloc jN _) (by omega)) F).mono ?_;rintro _ w1 ⟨rfl,E⟩;have h4:=E.size;rw[Ya]at h4;have Y:=jng (jny h3.o) E (by simp;omega);have Z:=jng (jnC w zw) E (by simp);have K:jna p w.heap.size w w1:=jna.of ((((Ko w.heap.size w).alloc jN _)).trans (E.mono (by simp))) (by omega))
   |(go_at_call 67;refine(take_at h7.o hL hS Y H (R.o.only K F) F).mono ?_;rintro _ w2 ⟨rfl,U,C⟩;have k9:=C.below.size;have A:=(C.rest w.heap.size (by omega) (by omega)).trans Z;have e0:=jmp A 0 rfl;have e1:=jmp A 1 rfl;have e2:=jmp A 2 rfl;have e3:=jmp A 3 rfl;have g0:=jne A 0;have g1:=jne A 1;have g2:=jne A 2;have g3:=jne A 3))
  refine jxb rfl (jrG A) ⟨rfl,?_,?_⟩
  .exact(jpM (by omega)).trans U
  .exact⟨jrF (K.below.trans C.below) (by omega),fun b h1 h2=>(jpM (by omega)).trans ((C.rest b (by omega) h2).trans (K.rest b h1 h2))⟩
 .rw[if_neg hk,if_neg hk]
  have q6:((kk:Int) == (k:Int))=false:=by simp;omega
  obtain⟨a0,a1,a2,a3,I,h5,h9⟩:=jr3 (jE L (S.fail L 4).next);have h7:=jH I;have h8:cwV (jE L L.length)= .agg #[.int .i64 a0,.int .i64 a1,.int .i64 a2,.string a3]:=I;rw[h8];have k5:(S.fail L 4).next<=1000000:=by show L.length<=_;omega
  have q4:=jH k5;clear h5 h9 I h8 hk k5
  go_enter Tryz.func32,Tryz.ntmps32
  go_wp2_with (first
   |(go_at_call 61;refine(jpw k4.o hL (jny h3.o) H (R.o.below ((Ko w.heap.size w).alloc jN _) (by omega)) F).mono ?_;rintro _ w1 ⟨rfl,E⟩;have h4:=E.size;rw[Ya]at h4;have Y:=jng (jny h3.o) E (by simp;omega);have Z:=jng (jnC w zw) E (by simp);have K:jna p w.heap.size w w1:=jna.of ((((Ko w.heap.size w).alloc jN _)).trans (E.mono (by simp))) (by omega))
   |(go_at_call 66;refine(fail_any hL Y H (R.o.only K F) F).mono ?_;rintro _ w5 ⟨⟨u5,rfl⟩,k7,h0⟩;have q7:=h0.below.size;have k8:=(h0.rest w.heap.size (by omega) (by omega)).trans Z;have k2:jna p w.heap.size w w5:=K.trans ⟨h0.below,fun b h1 h2=>h0.rest b (by omega) h2⟩)
   |(go_at_call 67;refine(take_at h7.o hL q4.o k7 H (R.o.only k2 F) F).mono ?_;rintro _ w2 ⟨rfl,U,C⟩;have k9:=C.below.size;have A:=(C.rest w.heap.size (by omega) (by omega)).trans k8;have e0:=jmp A 0 rfl;have e1:=jmp A 1 rfl;have e2:=jmp A 2 rfl;have e3:=jmp A 3 rfl;have g0:=jne A 0;have g1:=jne A 1;have g2:=jne A 2;have g3:=jne A 3))
  refine jxb rfl (jrG A) ⟨rfl,?_,?_⟩
  .exact(jpM (by omega)).trans U
  .exact⟨jrF (k2.below.trans C.below) (by omega),fun b h1 h2=>(jpM (by omega)).trans ((C.rest b (by omega) h2).trans (k2.rest b h1 h2))⟩
def PF.shut (S:PF):PF:={S with opn:=S.opn-1}
def PF.finish (L:List Tok) (S:PF):PF:=(S.want L 24).shut
theorem jsd (L:List Tok) (k:Nat) (S:PF):(S.want L k).opn=S.opn:=by unfold PF.want;split <;> rfl
set_option maxRecDepth 100000 in
theorem jtP (hL:L.length<=100000) (hS:S.next<=1000000) (O: -1000000<=S.opn) (K:S.opn<=1000000) (A:w.heap[p]? =some (pfB lb L.length cap N S)) (F:L.length<=cap) (H:CW w lb L) (R:lb<p) :
 Calls Tryz.prog 98 #[.pointer (some ⟨p,0,none⟩)] w fun r w'=>(∃u,r= .returned u)/\w'.heap[p]? =some (pfB lb L.length cap N (S.finish L))/\jna p w.heap.size w w':=by
 have h1:=lt_of_block A;have h0:=jH A;have Y:=jH H
 obtain⟨S1,E⟩:∃S1,S.want L 24=S1:=⟨_,rfl⟩
 have Z:=jH E;have I:=jsd L 24 S;rw[E]at I;rw[<-I]at O K;unfold PF.finish;rw[E]
 obtain⟨t,ht⟩:∃t,jm8 L 24 S=t:=⟨_,rfl⟩
 have HT:=jH ht;clear A H E I ht
 go_enter Tryz.func98,Tryz.ntmps98
 go_wp2_with (go_at_call 32;refine(jqI hL hS h0.o F Y.o R).mono ?_;rw[Z.o,HT.o];unfold cwV;rintro _ w1 ⟨rfl,C,U⟩;have h2:=U.below.size;have c2:=jmp C 2 rfl;have f2:=jne C 2;simp only[Yz,Yp,List.getElem_cons_succ]at c2)
 go_returns;refine⟨⟨_,rfl⟩,block_setCell C 2 _,?_⟩;exact U.trans (jna.sole ((jnm.refl p w1).set _))
def PF.beg0 (L:List Tok) (N:Int) (k:Nat) (S:PF):PF:=if(jE L S.next).k=k then(if N<=S.opn then S.fail L 5 else S) else S.fail L 4
def PF.wide (S:PF):PF:={S with opn:=S.opn+1}
def PF.begin (L:List Tok) (N:Int) (k:Nat) (S:PF):PF:=(S.beg0 L N k).wide.take
theorem jAr (L:List Tok) (N:Int) (k:Nat) (S:PF):(S.beg0 L N k).opn=S.opn:=by unfold PF.beg0;split <;> (try split) <;> rfl
theorem jIV (C:L.length<=100000) (A:S.next<=1000000):(S.beg0 L N k).next<=1000000:=by
 unfold PF.beg0
 split <;> (try split)
 .show L.length<=_;omega
 .exact A
 .show L.length<=_;omega
theorem jwD (ht:tmps.getD 4 undef= .pointer (some ⟨r,0,none⟩)) (A:W.heap[r]? =some (.cells #[x0,x1,x2,x3] 90 (0,0))) (F:Q (.returned (.agg #[x0,x1,x2,x3])) W) :
 bodyPost Tryz.prog Tryz.f97 Q Exit.ret {tmps:=tmps,defers:=[]} W:=by
 have c0:=jmp A 0 rfl;have c1:=jmp A 1 rfl;have C:=jmp A 2 rfl;have E:=jmp A 3 rfl;simp only[Yz,Yp,List.getElem_cons_succ]at c0 c1 C E;have H:tmps[4]?.getD undef= .pointer (some ⟨r,0,none⟩):=by simpa using ht
 exact bodyPost_ret (v:=.agg #[x0,x1,x2,x3]) (by simp[results,Tryz.results97,go_sem,H,c0,c1,C,E]) rfl F
set_option maxRecDepth 100000 in
theorem jmd (hL:L.length<=100000) (hS:S.next<=1000000) (k9: -1000000<=S.opn) (k8:S.opn<=1000000) (k4:w.heap[p]? =some (pfB lb L.length cap N S)) (K:L.length<=cap) (q4:CW w lb L) (I:lb<p) :
 Calls Tryz.prog 97 #[.pointer (some ⟨p,0,none⟩),.int .i64 k] w fun e w'=>e= .returned (cwV (jE L (S.beg0 L N k).next))/\w'.heap[p]? =some (pfB lb L.length cap N (S.begin L N k))/\jna p w.heap.size w w':=by
 have v0:=lt_of_block k4;have k1:=jH k4;have h5:=jH q4
 obtain⟨kk,r3⟩:∃kk,(jE L S.next).k=kk:=⟨_,rfl⟩
 have r1:=jH r3;have q9:=jAr L N k S;have r2:=jIV (N:=N) (k:=k) hL hS
 have h4:Hid (S.beg0 L N k=if kk=k then(if N<=S.opn then S.fail L 5 else S) else S.fail L 4):=by
  show _=_;unfold PF.beg0;rw[r3]
 unfold PF.begin
 obtain⟨S0,r6⟩:∃S0,S.beg0 L N k=S0:=⟨_,rfl⟩
 rw[r6]at q9 r2 h4 ⊢;obtain⟨a0,a1,a2,a3,q8,r8,r9⟩:=jr3 (jE L S0.next);have q5:Hid (cwV (jE L S0.wide.next)= .agg #[.int .i64 a0,.int .i64 a1,.int .i64 a2,.string a3]):=q8;rw[q8];have k7:Hid (S0.wide.next<=1000000):=r2;have r4:=jH q9;clear k4 q4 r3 r6 r8 r9 q8 r2 q9
 by_cases hk:kk=k
 .subst hk
  rw[if_pos rfl]at h4
  by_cases hN:N<=S.opn
  .rw[if_pos hN]at h4
   have hdN:decide (N<=S.opn)=true:=by simpa using hN
   have h9: -1000000<=S0.opn/\S0.opn<=1000000:=by rw[r4.o];exact⟨k9,k8⟩
   obtain⟨b1,b2⟩:=h9
   go_enter Tryz.func97,Tryz.ntmps97
   go_upto_region 3 with(go_at_call 61;refine(jpw r1.o hL (jny k1.o) K (h5.o.below ((Ko w.heap.size w).alloc jN _) (by omega)) I).mono ?_;rintro _ U ⟨rfl,F⟩;have h8:=F.size;rw[Ya]at h8;have E:=jng (jny k1.o) F (by simp;omega);have Y:=jng (jnC w zw) F (by simp);have Z:jna p w.heap.size w U:=jna.of ((((Ko w.heap.size w).alloc jN _)).trans (F.mono (by simp))) (by omega);have q2:=jmp E 2 rfl;have q3:=jmp E 3 rfl;simp only[Yz,Yp,List.getElem_cons_succ]at q2 q3)
   go_region
   have h0:jna p w.heap.size w U.drew:=⟨Z.below.drew,Z.rest⟩
   have q7:U.drew.heap[p]? =some (pfB lb L.length cap N S):=E;have r5:U.drew.heap[w.heap.size]? =some zw:=Y;have r7:w.heap.size+1<=U.drew.heap.size:=h8;clear q2 q3 E Y F Z hdN;generalize U.drew=w6 at h0 q7 r5 r7 ⊢
   go_wp2_with (first
    |(go_at_call 66;refine(fail_any (w:=w6) hL q7 K (h5.o.only h0 I) I).mono ?_;rintro _ w5 ⟨⟨u5,rfl⟩,C,O⟩;rw[<-h4.o]at C;have q6:=O.below.size;have h3:=(O.rest w.heap.size (by omega) (by omega)).trans r5;have h6:jna p w.heap.size w w5:=h0.trans ⟨O.below,fun b h1 h2=>O.rest b (by omega) h2⟩;have k2:=jmp C 2 rfl;have j2:=jne C 2;simp only[Yz,Yp,List.getElem_cons_succ]at k2)
    |(go_at_call 67;refine(take_at (w:=w5.setCell ⟨p,2,none⟩ _) q5.o hL k7.o (by exact block_setCell C 2 _) K (h5.o.only (h6.trans (jna.sole ((jnm.refl p w5).set _))) I) I).mono ?_;rintro _ w2 ⟨rfl,h7,H⟩;have k5:=H.below.size;rw[size_setCell]at k5;have A:=((H.rest w.heap.size (by rw[size_setCell];omega) (by omega)).trans (Kh _ _ _ _ (by show w.heap.size≠p;omega))).trans h3;have e0:=jmp A 0 rfl;have e1:=jmp A 1 rfl;have e2:=jmp A 2 rfl;have e3:=jmp A 3 rfl;have g0:=jne A 0;have g1:=jne A 1;have g2:=jne A 2;have g3:=jne A 3))
   refine jwD rfl (jrG A) ⟨rfl,(jpM (by omega)).trans h7,?_⟩;have R:jna p w.heap.size w w2:=(h6.trans (jna.sole ((jnm.refl p w5).set (i:=2) (.int .i64 (S0.opn+1))))).trans ⟨H.below,fun b h1 h2=>H.rest b (by rw[size_setCell];omega) h2⟩;exact⟨jrF R.below (by omega),fun b h1 h2=>(jpM (by omega)).trans (R.rest b h1 h2)⟩
  .rw[if_neg hN]at h4
   have hdN:decide (N<=S.opn)=false:=by simpa using hN
   have h9: -1000000<=S0.opn/\S0.opn<=1000000:=by rw[r4.o];exact⟨k9,k8⟩
   obtain⟨b1,b2⟩:=h9
   go_enter Tryz.func97,Tryz.ntmps97
   go_upto_region 3 with(go_at_call 61;refine(jpw r1.o hL (jny k1.o) K (h5.o.below ((Ko w.heap.size w).alloc jN _) (by omega)) I).mono ?_;rintro _ U ⟨rfl,F⟩;have h8:=F.size;rw[Ya]at h8;have E:=jng (jny k1.o) F (by simp;omega);have Y:=jng (jnC w zw) F (by simp);have Z:jna p w.heap.size w U:=jna.of ((((Ko w.heap.size w).alloc jN _)).trans (F.mono (by simp))) (by omega);have q2:=jmp E 2 rfl;have q3:=jmp E 3 rfl;simp only[Yz,Yp,List.getElem_cons_succ]at q2 q3)
   go_region
   have O:jna p w.heap.size w U.drew:=⟨Z.below.drew,Z.rest⟩
   have C:U.drew.heap[p]? =some (pfB lb L.length cap N S0):=by rw[h4.o];exact E
   have h3:U.drew.heap[w.heap.size]? =some zw:=Y;have q6:w.heap.size+1<=U.drew.heap.size:=h8;clear q2 q3 E Y F Z hdN;generalize U.drew=w5 at O C h3 q6 ⊢;have h6:=O;have k2:=jmp C 2 rfl;have j2:=jne C 2;simp only[Yz,Yp,List.getElem_cons_succ]at k2
   go_wp2_with (go_at_call 67;refine(take_at (w:=w5.setCell ⟨p,2,none⟩ _) q5.o hL k7.o (by exact block_setCell C 2 _) K (h5.o.only (h6.trans (jna.sole ((jnm.refl p w5).set _))) I) I).mono ?_;rintro _ w2 ⟨rfl,h7,H⟩;have k5:=H.below.size;rw[size_setCell]at k5;have A:=((H.rest w.heap.size (by rw[size_setCell];omega) (by omega)).trans (Kh _ _ _ _ (by show w.heap.size≠p;omega))).trans h3;have e0:=jmp A 0 rfl;have e1:=jmp A 1 rfl;have e2:=jmp A 2 rfl;have e3:=jmp A 3 rfl;have g0:=jne A 0;have g1:=jne A 1;have g2:=jne A 2;have g3:=jne A 3)
   refine jwD rfl (jrG A) ⟨rfl,(jpM (by omega)).trans h7,?_⟩;have R:jna p w.heap.size w w2:=(h6.trans (jna.sole ((jnm.refl p w5).set (i:=2) (.int .i64 (S0.opn+1))))).trans ⟨H.below,fun b h1 h2=>H.rest b (by rw[size_setCell];omega) h2⟩;exact⟨jrF R.below (by omega),fun b h1 h2=>(jpM (by omega)).trans (R.rest b h1 h2)⟩
 .rw[if_neg hk]at h4
  have v1:((kk:Int) == (k:Int))=false:=by simp;omega
  have h9: -1000000<=S0.opn/\S0.opn<=1000000:=by rw[r4.o];exact⟨k9,k8⟩
  obtain⟨b1,b2⟩:=h9;clear hk
  go_enter Tryz.func97,Tryz.ntmps97
  go_wp2_with (first
   |(go_at_call 61;refine(jpw r1.o hL (jny k1.o) K (h5.o.below ((Ko w.heap.size w).alloc jN _) (by omega)) I).mono ?_;rintro _ U ⟨rfl,F⟩;have h8:=F.size;rw[Ya]at h8;have E:=jng (jny k1.o) F (by simp;omega);have Y:=jng (jnC w zw) F (by simp);have Z:jna p w.heap.size w U:=jna.of ((((Ko w.heap.size w).alloc jN _)).trans (F.mono (by simp))) (by omega);have q2:=jmp E 2 rfl;have q3:=jmp E 3 rfl;simp only[Yz,Yp,List.getElem_cons_succ]at q2 q3;have h0:=Z)
   |(go_at_call 66;refine(fail_any (w:=U) hL E K (h5.o.only h0 I) I).mono ?_;rintro _ w5 ⟨⟨u5,rfl⟩,C,O⟩;rw[<-h4.o]at C;have q6:=O.below.size;have h3:=(O.rest w.heap.size (by(try simp only[World.heap_drew]);omega) (by omega)).trans Y;have h6:jna p w.heap.size w w5:=h0.trans ⟨O.below,fun b h1 h2=>O.rest b (by(try simp only[World.heap_drew]);omega) h2⟩;have k2:=jmp C 2 rfl;have j2:=jne C 2;simp only[Yz,Yp,List.getElem_cons_succ]at k2)
   |(go_at_call 67;refine(take_at (w:=w5.setCell ⟨p,2,none⟩ _) q5.o hL k7.o (by exact block_setCell C 2 _) K (h5.o.only (h6.trans (jna.sole ((jnm.refl p w5).set _))) I) I).mono ?_;rintro _ w2 ⟨rfl,h7,H⟩;have k5:=H.below.size;rw[size_setCell]at k5;have A:=((H.rest w.heap.size (by rw[size_setCell];omega) (by omega)).trans (Kh _ _ _ _ (by show w.heap.size≠p;omega))).trans h3;have e0:=jmp A 0 rfl;have e1:=jmp A 1 rfl;have e2:=jmp A 2 rfl;have e3:=jmp A 3 rfl;have g0:=jne A 0;have g1:=jne A 1;have g2:=jne A 2;have g3:=jne A 3))
  refine jwD rfl (jrG A) ⟨rfl,(jpM (by omega)).trans h7,?_⟩;have R:jna p w.heap.size w w2:=(h6.trans (jna.sole ((jnm.refl p w5).set (i:=2) (.int .i64 (S0.opn+1))))).trans ⟨H.below,fun b h1 h2=>H.rest b (by rw[size_setCell];omega) h2⟩;exact⟨jrF R.below (by omega),fun b h1 h2=>(jpM (by omega)).trans (R.rest b h1 h2)⟩
theorem Tryz.info138:(Tryz.prog.info? 138).map (fun i=>(i.zero,i.size,i.bytes))=some (some (.agg #[.int .i64 0,.int .i64 0,.int .i64 0,.int .i64 0,.slice none 0 0,.slice none 0 0]),6,80):=by kernel_rfl
theorem Tryz.underlying36':Tryz.prog.underlying 36=some (.slice 138):=by kernel_rfl
def PF.row (S:PF) (v:Value):PF:={S with pv:=v}
def ptC (k a wd:Nat) (nm:Int) (nv kv:Value):List Value:=[.int .i64 k,.int .i64 a,.int .i64 wd,.int .i64 nm,nv,kv]
variable {base n:Nat}{e:TypeId}{v:Value}{xs:List Value}
theorem jJd {A:World}{o1 H:Obj}{X:Obj}(E:w.ownsRow base e 6 v n xs) (R:p<base) (F:base<=w.heap.size) (C:w.heap[p]? =some X) (I:((w.alloc o1).alloc H).drew.grownBy A v.ownBlock) :
 A.heap[p]? =some X/\(∀b,b<w.heap.size->v.ownBlock≠some b->A.heap[b]? =w.heap[b]?)/\w.heap.size<=A.heap.size/\Below base w A:=by
 have O:=lt_of_block C;have U:Below base w ((w.alloc o1).alloc H).drew:=((jB.alloc F _).alloc (by rw[Ya];omega) _).drew
 have hs:((w.alloc o1).alloc H).drew.heap.size=w.heap.size+1+1:=by
  show((w.alloc o1).alloc H).heap.size=_;rw[Ya,Ya]
 have K:∀b,b<w.heap.size->v.ownBlock≠some b->A.heap[b]? =w.heap[b]?:=fun b h1 h2=>by
  rw[I.block b (by omega) (fun h=>h2 h.symm)];show((w.alloc o1).alloc H).heap[b]? =_;rw[Kq _ _ _ (by rw[Ya];omega),Kq _ _ _ h1]
 refine⟨(K p O (fun h=>by have:=(E.lt p h).1;omega)).trans C,K,?_,U.grown I (by omega) (jh7 E)⟩;have:=I.size;omega
set_option maxRecDepth 100000 in
theorem add_any {a wd:Nat}{nm:Int}{nb kb:Option Addr}{nn nc U kc:Nat}(hn:n<=100000) (A:w.heap[p]? =some (pfB lb L.length cap N S)) (F:p<base) (H:base<=w.heap.size)
 (E:w.ownsRow base 138 6 S.pv n xs) :
 Calls Tryz.prog 85 #[.pointer (some ⟨p,0,none⟩),.agg #[.int .i64 k,.int .i64 a,.int .i64 wd,.int .i64 nm,.slice nb nn nc,.slice kb U kc]] w fun e w'=>e= .returned (.int .i64 n)/\
  ∃g c,w'.heap[p]? =some (pfB lb L.length cap N (S.row (.slice (some ⟨g,0,none⟩) (n+1) c)))/\w'.ownsRow base 138 6 (.slice (some ⟨g,0,none⟩) (n+1) c) (n+1) (xs ++ptC k a wd nm (.slice nb nn nc) (.slice kb U kc))/\
   (S.pv.ownBlock=some g\/w.heap.size<=g)/\(∀b,b<w.heap.size->b≠p->S.pv.ownBlock≠some b->w'.heap[b]? =w.heap[b]?)/\w.heap.size<=w'.heap.size/\Below p w w':=by
 have k8:=lt_of_block A;have k4:=jH A;have O:=jH E;obtain⟨i0,h6,h5,k5,k1⟩:=info_parts Tryz.info138;have c4:=jmp A 4 rfl;have f4:=jne A 4
 obtain⟨pv,h0⟩:∃pv,S.pv=pv:=⟨_,rfl⟩
 rw[h0]at c4 O ⊢;simp only[Yz,Yp,List.getElem_cons_succ]at c4;clear A E h0
 go_enter Tryz.func85,Tryz.ntmps85
 go_wp2
 go_region_law ((refine step_append_lies _ (by rfl) (.tmp 9) (.tmp 11) 36 (by rfl) base 138 i0 _ 6 80 Tryz.underlying36' h6 h5 k5 k1 rfl (by decide) pv n xs (by rfl) ((O.o.alloc _).alloc _) ⟨w.heap.size+1,0,none⟩ 1 1 (ptC k a wd nm (.slice nb nn nc) (.slice kb U kc)) (by rfl) (by rfl) (Ja _ _ _ _ (by simp)) (by intro u hu;simp[ptC]at hu;rcases hu with rfl|rfl|rfl|rfl|rfl|rfl <;> rfl) (by decide) (by unfold maxLen;omega) (by omega) (by simp;omega) _ rfl ?_;intro g c w1 Y Z k2 k7;obtain⟨C,h8,h7,h9⟩:=jJd O.o F H k4.o Z;have d4:=jmp C 4 rfl;have e4:=jne C 4))
 all_goals
  rename_i Q' K hK
  refine hK _ _ ?_;clear hK;clear K;have I:=block_setCell C 4 (.slice (some ⟨g,0,none⟩) (n+1) c);have g4:(w1.setCell ⟨p,4,none⟩ (.slice (some ⟨g,0,none⟩) (n+1) c)).cell? ⟨p,4,none⟩=some (.slice (some ⟨g,0,none⟩) (n+1) c):=jmp I 4 rfl;have R:=ownsRow_setCell_below (a:=⟨p,4,none⟩) Y F (.slice (some ⟨g,0,none⟩) (n+1) c);have h4:pv.ownBlock=some g\/w.heap.size<=g:=k2.imp id (fun h=>by rw[h];show _<=((w.alloc _).alloc _).heap.size;rw[Ya,Ya];omega)
  go_wp2
  go_ret;refine⟨rfl,g,c,I,R,h4,fun b h1 h2 h3=>?_,?_,?_⟩
  .rw[Kh _ _ _ _ h2];exact h8 b h1 h3
  .rw[size_setCell];exact h7
  .exact(h9.mono (Ug F)).trans ((jnm.refl p w1).set _).1
def cOp (k:Nat):Nat:=if k=27\/k=19\/k=28\/k=20\/k=29\/k=21 then 17 else if k=30\/k=31 then 16 else if k=32\/k=33\/k=34 then 15 else 0
theorem jnE {m:Nat}(h:k≠m):((k:Int) == (m:Int))=false:=by simpa using(fun h2=>h (by omega))
set_option maxRecDepth 100000 in
theorem jEb (E:(jE L S.next).k=kk) (Z:L.length<=100000) (C:w.heap[p]? =some (pfB lb L.length cap N S)) (A:L.length<=cap) (F:CW w lb L) (H:lb<p) :
 Calls Tryz.prog 100 #[.pointer (some ⟨p,0,none⟩)] w fun e w'=>e= .returned (.int .i64 (cOp kk:Nat))/\Below w.heap.size w w':=by
 have R:=jH C;have K:=jH F;have Y:=jH E;clear C F E;have hc:kk=27\/kk=19\/kk=28\/kk=20\/kk=29\/kk=21\/kk=30\/kk=31\/kk=32\/kk=33\/kk=34\/(kk≠27/\kk≠19/\kk≠28/\kk≠20/\kk≠29/\kk≠21/\kk≠30/\kk≠31/\kk≠32/\kk≠33/\kk≠34):=by omega
 rcases hc with rfl|rfl|rfl|rfl|rfl|rfl|rfl|rfl|rfl|rfl|rfl|⟨h1,h2,h3,h4,h5,h6,h7,h8,h9,O,U⟩
 case inr.inr.inr.inr.inr.inr.inr.inr.inr.inr.inr=>
  have ho:cOp kk=0:=by unfold cOp;simp[h1,h2,h3,h4,h5,h6,h7,h8,h9,O,U]
  rw[ho];have b1:=jnE h1;have b2:=jnE h2;have b3:=jnE h3;have b4:=jnE h4;have b5:=jnE h5;have b6:=jnE h6;have b7:=jnE h7;have b8:=jnE h8;have b9:=jnE h9;have k1:=jnE O;have h0:=jnE U;clear ho
  go_enter Tryz.func100,Tryz.ntmps100
  go_wp2_with (go_at_call 61;refine(jpw Y.o Z R.o A K.o H).mono ?_;rintro _ w1 ⟨rfl,I⟩)
  go_ret;exact⟨rfl,I⟩
 all_goals
  go_enter Tryz.func100,Tryz.ntmps100
  go_wp2_with (go_at_call 61;refine(jpw Y.o Z R.o A K.o H).mono ?_;rintro _ w1 ⟨rfl,I⟩)
  go_ret;exact⟨rfl,I⟩
def job (k:Nat):Bool:=k == 1 || k == 11 || k == 12 || k == 13 || k == 2 || k == 23
set_option maxRecDepth 100000 in
theorem jI3 (E:(jE L S.next).k=kk) (U:L.length<=100000) (C:w.heap[p]? =some (pfB lb L.length cap N S)) (A:L.length<=cap) (F:CW w lb L) (H:lb<p) :
 Calls Tryz.prog 130 #[.pointer (some ⟨p,0,none⟩)] w fun e w'=>e= .returned (.bool (job kk))/\Below w.heap.size w w':=by
 have O:=jH C;have K:=jH F;have R:=jH E;clear C F E;have hc:kk=1\/kk=11\/kk=12\/kk=13\/kk=2\/kk=23\/(kk≠1/\kk≠11/\kk≠12/\kk≠13/\kk≠2/\kk≠23):=by omega
 rcases hc with rfl|rfl|rfl|rfl|rfl|rfl|⟨h1,h2,Y,h4,h5,Z⟩
 case inr.inr.inr.inr.inr.inr=>
  have ho:job kk=false:=by unfold job;simp[h1,h2,Y,h4,h5,Z]
  rw[ho];have b1:=jnE h1;have b2:=jnE h2;have b3:=jnE Y;have b4:=jnE h4;have b5:=jnE h5;have b6:=jnE Z;clear ho
  go_enter Tryz.func130,Tryz.ntmps130
  go_wp2_with (go_at_call 61;refine(jpw R.o U O.o A K.o H).mono ?_;rintro _ w1 ⟨rfl,I⟩)
  go_ret;exact⟨rfl,I⟩
 all_goals
  go_enter Tryz.func130,Tryz.ntmps130
  go_wp2_with (go_at_call 61;refine(jpw R.o U O.o A K.o H).mono ?_;rintro _ w1 ⟨rfl,I⟩)
  go_ret;exact⟨rfl,I⟩
structure CP where
 k:Nat
 a:Nat
 wd:Nat
 nm:Int
 ns:List ByteArray
 ks:List Int
variable {size:Nat}
theorem joh {A:World}(h:w.ownsRow base e size v n xs) (C:∀b,v.ownBlock=some b->A.heap[b]? =w.heap[b]?):A.ownsRow base e size v n xs:=by
 refine⟨h.1,?_⟩
 rcases h.2 with K|⟨g,cap,E,F,O,I,H⟩
 .exact .inl K
 .exact .inr ⟨g,cap,E,F,O,(C g (by rw[F];rfl)).trans I,H⟩
theorem joG (h:w.ownsRow base e size v n xs):∃a c,v= .slice a n c:=by
 rcases h.2 with⟨A,C⟩|⟨g,cap,E,A,C,H,F⟩
 .exact⟨none,0,by rw[A,C]⟩
 .exact⟨_,cap,A⟩
structure jr6 (w:World) (base:Nat) (row:Option Nat) (q:CP) (v:Value × Value):Prop where
 names:w.ownsRow base 9 1 v.1 q.ns.length (q.ns.map Value.string)
 kids:w.ownsRow base 3 1 v.2 q.ks.length (q.ks.map (Value.int .i64))
 n1:∀b,v.1.ownBlock=some b->row≠some b
 n2:∀b,v.2.ownBlock=some b->row≠some b
def jpT:List CP->List (Value × Value)->List Value
 |q ::ps,v ::vs=>ptC q.k q.a q.wd q.nm v.1 v.2 ++jpT ps vs
 |_,_=>[]
theorem jz2:∀(ps:List CP) (vs:List (Value × Value)) (q:CP) (v:Value × Value),vs.length=ps.length->jpT (ps ++[q]) (vs ++[v])=jpT ps vs ++ptC q.k q.a q.wd q.nm v.1 v.2
 |[],[],q,v,_=>by simp[jpT]
 |p ::ps,u ::vs,q,v,h=>by
  have:=jz2 ps vs q v (by simpa using h);simp only[Ka,jpT,this,Yu]
 |[],_ ::_,_,_,h=>by cases h
 |_ ::_,[],_,_,h=>by cases h
structure jnZ (w:World) (base:Nat) (pv:Value) (ps:List CP) (vs:List (Value × Value)):Prop where
 own:w.ownsRow base 138 6 pv ps.length (jpT ps vs)
 len:vs.length=ps.length
 rows:∀i (h:i<ps.length) (h':i<vs.length),jr6 w base pv.ownBlock ps[i] vs[i]
structure Fr (p:Nat) (row row':Option Nat) (w w':World):Prop where
 below:Below p w w'
 size:w.heap.size<=w'.heap.size
 rest:∀b,b<w.heap.size->b≠p->row≠some b->w'.heap[b]? =w.heap[b]?
 row:∀b,row'=some b->row=some b\/w.heap.size<=b
theorem Fr.trans {p:Nat}{H F E:Option Nat}{C w2 w3:World}(h:Fr p H F C w2) (A:Fr p F E w2 w3):Fr p H E C w3:=by
 have hs:=h.size;refine⟨h.below.trans A.below,Ym h.size A.size,fun b hb hp hr=>?_,fun b hb=>?_⟩
 .rw[A.rest b (by omega) hp (fun h2=>(h.row b h2).elim hr (fun h3=>by omega)),h.rest b hb hp hr]
 .rcases A.row b hb with h2|h2
  .exact h.row b h2
  .exact .inr (by omega)
theorem Fr.only {row:Option Nat}(h:jna p w.heap.size w w') (hs:w.heap.size<=w'.heap.size):Fr p row row w w':=⟨h.below,hs,fun b hb hp _=>h.rest b hb hp,fun _ h=>.inl h⟩
theorem Fr.below' {row:Option Nat}(h:Below w.heap.size w w') (A:p<=w.heap.size):Fr p row row w w':=⟨h.mono A,h.size,fun b hb _ _=>h.block b hb,fun _ h=>.inl h⟩
theorem Fr.own {row A:Option Nat}(h:Fr p row A w w') (C:w.ownsRow base e size v n xs) (H:p<base) (E:∀b,v.ownBlock=some b->row≠some b):w'.ownsRow base e size v n xs/\∀b,v.ownBlock=some b->A≠some b:=by
 refine⟨joh C fun b hb=>?_,fun b hb h2=>?_⟩
 .have:=C.lt b hb
  exact h.rest b (by omega) (by omega) (E b hb)
 .have:=C.lt b hb
  rcases h.row b h2 with F|F
  .exact E b hb F
  .omega
theorem jr6.fr {row A:Option Nat}{q:CP}{v:Value × Value}(h:jr6 w base row q v) (C:Fr p row A w w') (E:p<base):jr6 w' base A q v:=
 have F:=C.own h.names E h.n1;have H:=C.own h.kids E h.n2
 ⟨F.1,H.1,F.2,H.2⟩
theorem jnZ.only {p base:Nat}{w w':World}{pv:Value}{ps:List CP}{vs:List (Value × Value)}(h:jnZ w base pv ps vs) (A:jna p w.heap.size w w') (hs:w.heap.size<=w'.heap.size) (C:p<base):jnZ w' base pv ps vs:=by
 refine⟨joh h.own fun b hb=>?_,h.len,fun i h1 h2=>(h.rows i h1 h2).fr (Fr.only A hs) C⟩;have:=h.own.lt b hb;exact A.rest b (by omega) (by omega)
variable {ps:List CP}{vs:List (Value × Value)}
theorem jAw {q:CP}{v:Value × Value}(U:ps.length<=100000) (F:w.heap[p]? =some (pfB lb L.length cap N S)) (C:p<base) (E:base<=w.heap.size)
 (A:jnZ w base S.pv ps vs) (K:jr6 w base S.pv.ownBlock q v) :
 Calls Tryz.prog 85 #[.pointer (some ⟨p,0,none⟩),.agg #[.int .i64 q.k,.int .i64 q.a,.int .i64 q.wd,.int .i64 q.nm,v.1,v.2]] w fun e w'=>e= .returned (.int .i64 ps.length)/\
  ∃pv',w'.heap[p]? =some (pfB lb L.length cap N (S.row pv'))/\jnZ w' base pv' (ps ++[q]) (vs ++[v])/\Fr p S.pv.ownBlock pv'.ownBlock w w':=by
 obtain⟨v1,v2⟩:=v;obtain⟨Z,c1,H⟩:=joG K.names;obtain⟨Y,R,I⟩:=joG K.kids;simp only at H I;subst H I;refine(add_any U F C E A.own).mono ?_;rintro e w' ⟨rfl,g,c,h1,h2,h3,h4,h5,h6⟩
 have O:Fr p S.pv.ownBlock (Value.slice (some ⟨g,0,none⟩) (ps.length+1) c).ownBlock w w':=⟨h6,h5,h4,fun b hb=>by
  have:g=b:=by simpa[Value.ownBlock] using hb
  rw[<-this];exact h3⟩
 refine⟨rfl,_,h1,⟨?_,by simp[A.len],fun i hi hi'=>?_⟩,O⟩
 .rw[jz2 _ _ _ _ A.len,Yg];exact h2
 .by_cases hlt:i<ps.length
  .rw[List.getElem_append_left hlt,List.getElem_append_left (by rw[A.len];exact hlt)]
   exact(A.rows i hlt (by rw[A.len];exact hlt)).fr O C
  .have he:i=ps.length:=by rw[Yg]at hi;simp at hi;omega
   subst he;have H:(ps ++[q])[ps.length]=q:=by simp
   have I:∀h,(vs ++[(Value.slice Z q.ns.length c1,Value.slice Y q.ks.length R)])[ps.length]'h=(Value.slice Z q.ns.length c1,Value.slice Y q.ks.length R):=by
    intro h;simp[<-A.len]
   rw[H,I];exact K.fr O C
variable {pv:Value}
theorem jnZ.below (h:jnZ w base pv ps vs) (C:Below w.heap.size w w'):jnZ w' base pv ps vs:=by
 refine⟨joh h.own fun b hb2=>C.block b (h.own.lt b hb2).2,h.len,fun i h1 h2=>?_⟩;have A:=h.rows i h1 h2;exact⟨joh A.names fun b hb2=>C.block b (A.names.lt b hb2).2,joh A.kids fun b hb2=>C.block b (A.kids.lt b hb2).2,A.n1,A.n2⟩
theorem jrM (A:w.heap[B]? =some (.cells xs.toArray e (0,0))) (C:base<=B) (E:xs.length<=maxLen):w.ownsRow base e 1 (.slice (some ⟨B,0,none⟩) xs.length xs.length) xs.length xs:=
 ⟨by omega,.inr ⟨B,xs.length,xs.toArray,rfl,C,A,jN,E,by simp,by simp⟩⟩
theorem jnZ.row_lt (h:jnZ w base pv ps vs):∀b,w.heap.size<=b->pv.ownBlock≠some b:=fun b hb h2=>by
 have:=h.own.lt b h2;omega
theorem jDh {row:Option Nat}{a wd:Nat}{nm l r:Int}(o1:Obj) (E:base<=w.heap.size) (C:∀b,w.heap.size<=b->row≠some b) :
 jr6 ((w.alloc o1).alloc (.cells #[.int .i64 l,.int .i64 r] 3)) base row ⟨k,a,wd,nm,[],[l,r]⟩ (.slice none 0 0,.slice (some ⟨w.heap.size+1,0,none⟩) 2 2):=by
 have A:((w.alloc o1).alloc (.cells #[.int .i64 l,.int .i64 r] 3)).heap[w.heap.size+1]? =some (.cells #[.int .i64 l,.int .i64 r] 3 (0,0)):=by
  have h:=heap_alloc_new (w.alloc o1) (.cells #[.int .i64 l,.int .i64 r] 3)
  rwa [Ya]at h
 refine⟨Uk _ _ _ _,jrM (xs:=[.int .i64 l,.int .i64 r]) A (by omega) (by simp[maxLen]),fun b A=>(by cases A),fun b A=>C b ?_⟩;have:w.heap.size+1=b:=by simpa[Value.ownBlock] using A
 omega
set_option maxRecDepth 100000 in
theorem jIT {tk F:Nat}{l r tn:Int}{ts:ByteArray}(hn:ps.length<=100000) (A:w.heap[p]? =some (pfB lb L.length cap N S)) (K:p<base) (C:base<=w.heap.size)
 (E:jnZ w base S.pv ps vs) :
 Calls Tryz.prog 88 #[.pointer (some ⟨p,0,none⟩),.int .i64 k,.int .i64 l,.agg #[.int .i64 tk,.int .i64 F,.int .i64 tn,.string ts],.int .i64 r] w fun e w'=>e= .returned (.int .i64 ps.length)/\
  ∃pv',w'.heap[p]? =some (pfB lb L.length cap N (S.row pv'))/\jnZ w' base pv' (ps ++[⟨k,F,tk,0,[],[l,r]⟩]) (vs ++[(.slice none 0 0,.slice (some ⟨w.heap.size+1,0,none⟩) 2 2)])/\Fr p S.pv.ownBlock pv'.ownBlock w w':=by
 have H:=lt_of_block A;have R:=jH A;have I:=jH E
 have O:∀o1 o2:Obj,Hid (Below w.heap.size w ((w.alloc o1).alloc o2)):=fun o1 o2=>((jB.alloc jN _).alloc (by rw[Ya];omega) _)
 clear A E
 go_enter Tryz.func88,Tryz.ntmps88
 go_wp2_with (go_at_call 85;refine(jAw (q:=⟨k,F,tk,0,[],[l,r]⟩) (v:=(.slice none 0 0,.slice (some ⟨w.heap.size+1,0,none⟩) 2 2)) hn (jng R.o (O _ _).out H) K ?_ (I.o.below (O _ _).out) ?_).mono ?_;(rw[Ya,Ya];omega);exact jDh _ C I.o.row_lt;rintro _ w1 ⟨rfl,pv',Z,U,Y⟩)
 go_ret;refine⟨rfl,pv',Z,U,(Fr.below' (O _ _).out (Ug H)).trans Y⟩
theorem jz3:∀(ps:List CP) (vs:List (Value × Value)) (i:Nat) (h:i<ps.length) (h':i<vs.length) (j:Nat),j<6->(jpT ps vs)[i*6+j]? =(ptC ps[i].k ps[i].a ps[i].wd ps[i].nm vs[i].1 vs[i].2)[j]?
 |q ::ps,v ::vs,0,_,_,j,hj=>by
  simp only[jpT,Kv,Kc,Yp];rw[Kb (by simpa[ptC] using hj)]
 |q ::ps,v ::vs,i+1,h,h',j,hj=>by
  have:=jz3 ps vs i (by simpa using h) (by simpa using h') j hj;simp only[jpT,List.getElem_cons_succ];rw[Ud (by simp[ptC];omega),<-this]
  congr 1
  simp[ptC];omega
variable {i:Nat}
theorem jnZ.cell (h:jnZ w base pv ps vs) (hi:i<ps.length):∃g cap,pv= .slice (some ⟨g,0,none⟩) ps.length cap/\base<=g/\g<w.heap.size/\ps.length<=cap/\
 ∀(h':i<vs.length) j,j<6->w.cell? ⟨g,i*6+j,none⟩=(ptC ps[i].k ps[i].a ps[i].wd ps[i].nm vs[i].1 vs[i].2)[j]?:=by
 have A:=h.own
 rcases A.2 with⟨_,E⟩|⟨g,cap,I,C,E,H,F,K,_⟩
 .omega
 .refine⟨g,cap,C,E,lt_of_block H,F,fun h' j hj=>?_⟩
  rw[C]at A;rw[A.cellAt (i*6+j) (by omega)];exact jz3 ps vs i hi h' j hj
def joO (ps:List CP) (x:Int):Nat:=if x<0 then 0 else if h:x.toNat<ps.length then ps[x.toNat].a else 0
set_option maxRecDepth 100000 in
theorem jDQ {x:Int}(U:ps.length<=100000) (hx: -1<=x) (h2:x<=1000000) (C:w.heap[p]? =some (pfB lb L.length cap N S)) (A:jnZ w base S.pv ps vs) :
 Calls Tryz.prog 131 #[.pointer (some ⟨p,0,none⟩),.int .i64 x] w fun e w'=>e= .returned (.int .i64 (joO ps x))/\Below w.heap.size w w':=by
 have O:w.cell? ⟨p,4,none⟩=some S.pv:=jmp C 4 rfl
 by_cases R:x<0
 .have e:joO ps x=0:=by unfold joO;rw[if_pos R]
  rw[e];have hd:decide (x<0)=true:=by simpa using R
  clear C A e
  go_enter Tryz.func131,Tryz.ntmps131
  go_wp2
  go_ret;exact⟨rfl,by first|exact jB|exact jB.drew⟩
 .obtain⟨i,rfl⟩:∃i:Nat,x=i:=⟨x.toNat,by omega⟩
  by_cases F:i<ps.length
  .obtain⟨g,c,H,e2,e3,e4,e5⟩:=A.cell F
   have e6:=e5 (by rw[A.len];exact F) 1 (by omega);have I:joO ps i=ps[i].a:=by unfold joO;rw[if_neg R];simp[F]
   rw[I]
   obtain⟨Y,K⟩:∃Y,ps[i].a=Y:=⟨_,rfl⟩
   have e7:w.cell? ⟨g,i*6+1,none⟩=some (.int .i64 Y):=by rw[e6];simp[ptC,K]
   rw[K];rw[H]at O
   obtain⟨n,E⟩:∃n,ps.length=n:=⟨_,rfl⟩
   rw[E]at O U F e4;have hd:decide ((i:Int)<0)=false:=by simp
   have Z:decide ((n:Int)<=(i:Int))=false:=by simp;omega
   have h3:((i:Int)<(n:Int)):=by omega
   clear C A I H e5 e6 K E
   go_enter Tryz.func131,Tryz.ntmps131
   go_wp2
   go_ret;exact⟨rfl,by first|exact jB|exact jB.drew|exact jB.drew.drew⟩
  .have I:joO ps i=0:=by unfold joO;rw[if_neg R];simp[F]
   rw[I];obtain⟨a,c,H⟩:=joG A.own;rw[H]at O
   obtain⟨n,E⟩:∃n,ps.length=n:=⟨_,rfl⟩
   rw[E]at O U F;have hd:decide ((i:Int)<0)=false:=by simp
   have Z:decide ((n:Int)<=(i:Int))=true:=by simp;omega
   clear C A I H E
   go_enter Tryz.func131,Tryz.ntmps131
   go_wp2
   go_ret;exact⟨rfl,by first|exact jB|exact jB.drew⟩
theorem jIN {o:Obj}(h:b=w.heap.size):(w.alloc o).heap[b]? =some o:=by
 rw[h];exact jnC w o
theorem jDj {a:Option Addr}{c:Nat}(A:1<=n) (C:n<=100000) (w:World) :
 Calls Tryz.prog 34 #[.agg #[.slice a n c]] w fun e w'=>e= .returned (.int .i64 ((n-1:Nat):Int))/\Below w.heap.size w w':=by
 obtain⟨m,rfl⟩:∃m,n=m+1:=⟨n-1,by omega⟩
 go_enter Tryz.func34,Tryz.ntmps34
 go_wp2
 go_ret;exact⟨rfl,jB.alloc jN _⟩
theorem jD1 {E C:Value}(ht:tmps.getD 4 undef= .pointer (some ⟨r,0,none⟩)) (A:W.heap[r]? =some (.cells #[x0,x1,x2,x3,E,C] 138 (0,0))) (F:Q (.returned (.agg #[x0,x1,x2,x3,E,C])) W) :
 bodyPost Tryz.prog Tryz.f91 Q Exit.ret {tmps:=tmps,defers:=[]} W:=by
 have c0:=jmp A 0 rfl;have c1:=jmp A 1 rfl;have K:=jmp A 2 rfl;have O:=jmp A 3 rfl;have H:=jmp A 4 rfl;have c5:=jmp A 5 rfl;simp only[Yz,Yp,List.getElem_cons_succ]at c0 c1 K O H c5;have I:tmps[4]?.getD undef= .pointer (some ⟨r,0,none⟩):=by simpa using ht
 exact bodyPost_ret (v:=.agg #[x0,x1,x2,x3,E,C]) (by simp[results,Tryz.results91,go_sem,I,c0,c1,K,O,H,c5]) rfl F
set_option maxRecDepth 100000 in
theorem jxn (Y:ps.length<=100000) (F:jnZ w base pv ps vs) (hi:i<ps.length) (H:i<vs.length) :
 Calls Tryz.prog 91 #[.agg #[pv],.int .i64 i] w fun e w'=>e= .returned (.agg #[.int .i64 ps[i].k,.int .i64 ps[i].a,.int .i64 ps[i].wd,.int .i64 ps[i].nm,vs[i].1,vs[i].2])/\Below w.heap.size w w':=by
 obtain⟨g,c,R,e2,e3,e4,A⟩:=F.cell hi;have A:=A H;have K:=F.rows i hi H;obtain⟨x1,y1,C⟩:=joG K.names;obtain⟨x2,Z,E⟩:=joG K.kids;clear K;generalize ps[i].ns.length=l1 at C;generalize ps[i].ks.length=l2 at E
 obtain⟨q,U⟩:∃q,ps[i]=q:=⟨_,rfl⟩
 obtain⟨⟨v1,v2⟩,O⟩:∃v,vs[i]=v:=⟨_,rfl⟩
 obtain⟨k,a,wd,nm,ns,ks⟩:=q;rw[U,O]at A ⊢;rw[O]at C E;simp only at C E;subst C E
 obtain⟨n,I⟩:∃n,ps.length=n:=⟨_,rfl⟩
 rw[I]at R e4 Y hi;have d0:w.cell? ⟨g,i*6,none⟩=some (.int .i64 k):=A 0 (by omega);have d1:w.cell? ⟨g,i*6+1,none⟩=some (.int .i64 a):=A 1 (by omega);have d2:w.cell? ⟨g,i*6+2,none⟩=some (.int .i64 wd):=A 2 (by omega);have d3:w.cell? ⟨g,i*6+3,none⟩=some (.int .i64 nm):=A 3 (by omega);have d4:w.cell? ⟨g,i*6+4,none⟩=some (.slice x1 l1 y1):=A 4 (by omega);have d5:w.cell? ⟨g,i*6+5,none⟩=some (.slice x2 l2 Z):=A 5 (by omega);subst R;have hd:decide ((i:Int)<0)=false:=by simp
 have h0:decide ((n:Int)<=(i:Int))=false:=by simp;omega
 have h1:((i:Int)<(n:Int)):=by omega
 clear A F U O I H
 go_enter Tryz.func91,Tryz.ntmps91
 go_wp2
 refine jD1 rfl (by exact jIN (by simp)) ⟨rfl,?_⟩;exact(jB.alloc jN _).alloc (by rw[Ya];omega) _
theorem jv8 (a b c d:Int) (x y:Option Addr) (l m n o:Nat) (w:World):Sem.run Tryz.prog (Instr.field 138 (.agg #[.int .i64 a,.int .i64 b,.int .i64 c,.int .i64 d,.slice x l m,.slice y n o]) 5) w= .ok (.slice y n o) w:=by kernel_rfl
set_option maxRecDepth 100000 in
theorem jBC {j kd:Nat}(U:ps.length<=100000) (A:jnZ w base pv ps vs) (hi:i<ps.length) (H:ps[i].ks[j]? =some (kd:Int)) (hl:ps[i].ks.length<=100000) (h1:kd<i) :
 Calls Tryz.prog 106 #[.agg #[pv],.int .i64 i,.int .i64 j] w fun e w'=>e= .returned (.int .i64 kd)/\Below w.heap.size w w':=by
 have I:i<vs.length:=by rw[A.len];exact hi
 have h2:j<ps[i].ks.length:=by
  rcases Kg j ps[i].ks.length with h|h
  .exact h
  .rw[Ue h]at H;cases H
 have K:=A.rows i hi I;obtain⟨g,c,F,h4,h3,Z,h7⟩:=jnX K.kids (by omega);have Y:Below w.heap.size w (w.alloc (.cells #[pv] 38)):=jB.alloc jN _;have C:Hid (Calls Tryz.prog 91 #[.agg #[pv],.int .i64 i] (w.alloc (.cells #[pv] 38)) fun e w'=>e= .returned (.agg #[.int .i64 ps[i].k,.int .i64 ps[i].a,.int .i64 ps[i].wd,.int .i64 ps[i].nm,vs[i].1,vs[i].2])/\Below (w.alloc (.cells #[pv] 38)).heap.size (w.alloc (.cells #[pv] 38)) w'):=jxn U (A.below Y) hi I
 have hc:w.cell? ⟨g,j,none⟩=some (.int .i64 kd):=by
  have ho:=K.kids;rw[F]at ho;rw[ho.cellAt j (by omega),Yr,H];rfl
 obtain⟨a1,c1,h0⟩:=joG A.own;rw[F]at C;obtain⟨x4,y4,R⟩:=joG K.names;rw[R]at C;generalize (ps[i].k:Int)=f0 at C;generalize (ps[i].a:Int)=f1 at C;generalize (ps[i].wd:Int)=f2 at C;generalize ps[i].nm=f3 at C;generalize ps[i].ns.length=l4 at C R
 obtain⟨n,O⟩:∃n,ps[i].ks.length=n:=⟨_,rfl⟩
 rw[O]at C h2 Z hl;have hf:=jv8 f0 f1 f2 f3 x4 (some ⟨g,0,none⟩) l4 y4 n c;have hd:decide ((j:Int)<0)=false:=by simp
 have h6:decide ((n:Int)<=(j:Int))=false:=by simp;omega
 have h8:((j:Int)<(n:Int)):=by omega
 have h9:decide ((i:Int)<=(kd:Int))=false:=by simp;omega
 subst h0;clear A K F Y R O H U I
 go_enter Tryz.func106,Tryz.ntmps106
 go_wp2_with (go_at_call 91;refine C.o.mono ?_;rintro _ w1 ⟨rfl,E⟩;rw[Ya]at E;have h5:w1.cell? ⟨g,j,none⟩=some (.int .i64 kd):=(E.cell (p:=⟨g,j,none⟩) (by show g<_;omega)).trans ((Ke (Kq _ _ _ h3)).trans hc))
 go_ret;exact⟨rfl,by first|exact(jB.alloc jN _).trans (E.mono (by omega))|exact((jB.alloc jN _).trans (E.mono (by omega))).drew⟩
end
namespace Tg
open Go.RowKit
mutual
def XA (ps:List CP):Nat->Inf.X->Prop
 |i,.nd k p xs kids=>∃(q:CP) (ks:List Nat),ps[i]? =some q/\q.k=k/\(q.a:Int)=p/\q.ns=xs/\q.ks=ks.map (fun n:Nat=>(n:Int))/\(∀j ∈ ks,j<i)/\XAs ps ks kids
def XAs (ps:List CP):List Nat->List Inf.X->Prop
 |[],[]=>True
 |j ::ks,x ::l=>XA ps j x/\XAs ps ks l
 |_ ::_,[]=>False
 |[],_ ::_=>False
end
structure Wc where
 ps:List CP
 vs:List (Value × Value)
 wb:Nat
 pv:Value
structure TM (c:Wc) (w:World) (κ:Kp):Prop where
 at':jnZ w 0 c.pv c.ps c.vs
 big:c.ps.length<=100000
 tg:∀b,c.pv.ownBlock=some b->κ b=none
 tv:∀(i:Nat) (v:Value × Value),c.vs[i]? =some v->(∀b,v.1.ownBlock=some b->κ b=none)/\∀b,v.2.ownBlock=some b->κ b=none
variable {c:Wc}{w:World}{κ:Kp}
theorem TM.on {W:World}(h:TM c w κ) (A:Below w.heap.size w W):TM c W κ:=⟨h.at'.below A,h.big,h.tg,h.tv⟩
theorem TM.keep {S:Tag->Prop}{W:World}{B:Kp}(h:TM c w κ) (C:Fr S κ B w W):TM c W B:=by
 have hk:∀{base size n:Nat}{e:TypeId}{v:Value}{xs:List Value},w.ownsRow base e size v n xs->(∀b,v.ownBlock=some b->κ b=none)->W.ownsRow base e size v n xs/\∀b,v.ownBlock=some b->B b=none:=fun ho hn=>
  ⟨joh ho (fun b hb=>C.rest b (ho.lt b hb).2 (fun t ht=>by rw[hn b hb]at ht;cases ht)),fun b hb=>(C.old b (ho.lt b hb).2).trans (hn b hb)⟩
 have E:=hk h.at'.own h.tg;refine⟨⟨E.1,h.at'.len,fun i h1 h2=>?_⟩,h.big,E.2,fun i v hv=>?_⟩
 .have A:=h.at'.rows i h1 h2
  have ht:=h.tv i _ (Yb h2);exact⟨(hk A.names ht.1).1,(hk A.kids ht.2).1,A.n1,A.n2⟩
 .have hl:=(jG hv).1
  have A:=h.at'.rows i (by rw[<-h.at'.len];exact hl) hl;have e:c.vs[i]=v:=(jG hv).2;rw[e]at A;have ht:=h.tv i v hv;exact⟨(hk A.names ht.1).2,(hk A.kids ht.2).2⟩
structure Pn (ns:List NM) (P:Inf.PS):Prop where
 wn:WN ns
 ts:tsN ns=P.ts
 rp:Inf.Rp P.ts P.D (fnN ns)
 ok:Inf.Ok P.ts P.D
 bare:Inf.Bare P.ts
 back:Inf.Back P.ts
 dl:Inf.Dl P.ts.length P.D
 bt:∀b ∈ P.bs,b.t<P.n
 bl:P.bs.length<=P.n
 bx:∀b ∈ P.bs,b.x.size<=1000
 run:P.st=none
structure Rn (c:Wc) (w:World) (κ:Kp) (bv v:Value) (ns:List NM) (P:Inf.PS):Prop where
 wm:WM w κ c.wb c.pv bv 0 0 v ns
 bm:BM w κ bv P.bs
 pn:Pn ns P
def eN (u:Bool):Int:=if u then 6 else 7
structure ST (c:Wc) (w:World) (κ:Kp) (P:Inf.PS) (N:Nat):Prop where
 tm:TM c w κ
 st:∃bv v ns,ns.length<=N/\(Rn c w κ bv v ns P\/∃u p,P.st=some (u,p)/\WM w κ c.wb c.pv bv (eN u) p v ns)
theorem jtU (u:Bool):eN u≠0:=by unfold eN;cases u <;> decide
theorem Pn.n {ns:List NM}{P:Inf.PS}(h:Pn ns P):ns.length=P.n:=by
 unfold Inf.PS.n;rw[<-h.ts];unfold tsN;simp
theorem Rn.on {c:Wc}{w W:World}{κ:Kp}{bv v:Value}{ns:List NM}{P:Inf.PS}(h:Rn c w κ bv v ns P) (A:Below w.heap.size w W):Rn c W κ bv v ns P:=
 ⟨h.wm.on A,h.bm.on A,h.pn⟩
theorem ST.on {c:Wc}{w W:World}{κ:Kp}{P:Inf.PS}{N:Nat}(h:ST c w κ P N) (A:Below w.heap.size w W):ST c W κ P N:=by
 obtain⟨ht,bv,v,ns,B,h⟩:=h;refine⟨ht.on A,bv,v,ns,B,?_⟩
 rcases h with h|⟨u,p,hs,h⟩
 .exact .inl (h.on A)
 .exact .inr ⟨u,p,hs,h.on A⟩
variable {P:Inf.PS}{N:Nat}
theorem ST.mono {A:Nat}(h:ST c w κ P N) (B:N<=A):ST c w κ P A:=by
 obtain⟨ht,bv,v,ns,C,h⟩:=h;exact⟨ht,bv,v,ns,Ym C B,h⟩
theorem ST.lt {c:Wc}{w:World}{κ:Kp}{P:Inf.PS}{N:Nat}(h:ST c w κ P N):c.wb<w.heap.size:=by
 obtain⟨ht,bv,v,ns,A,h⟩:=h
 rcases h with h|⟨u,p,hs,h⟩
 .exact h.wm.gm.lt
 .exact h.gm.lt
theorem ST.err (h:ST c w κ P N):∃er a:Int,w.cell? ⟨c.wb,0,none⟩=some c.pv/\w.cell? ⟨c.wb,3,none⟩=some (.int .i64 er)/\w.cell? ⟨c.wb,4,none⟩=some (.int .i64 a)/\((P.st=none/\er=0/\a=0)\/∃u p,P.st=some (u,p)/\er=eN u/\a=p):=by
 obtain⟨ht,bv,v,ns,A,h⟩:=h
 rcases h with h|⟨u,p,hs,h⟩
 .exact⟨0,0,ja h.wm.blk 0 rfl,ja h.wm.blk 3 rfl,ja h.wm.blk 4 rfl,.inl ⟨h.pn.run,rfl,rfl⟩⟩
 .exact⟨_,_,ja h.blk 0 rfl,ja h.blk 3 rfl,ja h.blk 4 rfl,.inr ⟨u,p,hs,rfl,rfl⟩⟩
def SW (t:Tag):Prop:=t=(0,0)\/t=(1,0)\/t=(3,0)\/t=(4,0)
def NP (c:Wc) (κ:Kp) (w:World) (P P':Inf.PS) (N' t:Nat) (e:Ending) (w':World):Prop:=
 ∃(κ':Kp) (z:Int),e= .returned (.int .i64 z)/\Fr SW κ κ' w w'/\ST c w' κ' P' N'/\Inf.Gr P P'/\(P'.st=none->z=(t:Nat)/\t<P'.n)
def VP (c:Wc) (κ:Kp) (w:World) (P P':Inf.PS) (N':Nat) (e:Ending) (w':World):Prop:=
 e= .returned (.tuple #[])/\∃κ':Kp,Fr SW κ κ' w w'/\ST c w' κ' P' N'/\Inf.Gr P P'
variable {ns:List NM}{i:Nat}
theorem WN.flt (h:WN ns) (hi:i<ns.length):fnN ns i<ns.length:=by
 have A:ns[i]? =some ns[i]:=Yb hi;rw[jcu A];exact h.lt i _ A
theorem jBt (ns:List NM) (m:NM):tsN (ns ++[m])=tsN ns ++[⟨m.k,m.xs.map Int.toNat⟩]:=by unfold tsN;rw[Km];rfl
theorem jBI (xs:List Nat):(xs.map (fun n:Nat=>(n:Int))).map Int.toNat=xs:=by
 rw[List.map_map];have:(Int.toNat ∘ fun n:Nat=>(n:Int))=id:=by funext n;simp
 rw[this,List.map_id]
theorem Pn.add {ns:List NM}{P:Inf.PS}{k:Nat}{xs:List Nat}(h:Pn ns P) (A:∀a ∈ xs,a<P.n) (hk:k=0->xs=[]) (kv:Value):Pn (ns ++[⟨k,xs.map (fun n:Nat=>(n:Int)),ns.length,kv⟩]) (P.add k xs):=by
 rw[Inf.add_run h.run];have E:ns.length=P.ts.length:=h.n;refine⟨h.wn.add k kv (fun z hz=>?_),?_,?_,?_,Inf.bare_app h.bare hk,Inf.back_app h.back A,h.dl.mono (by simp),fun b hb=>?_,?_,h.bx,h.run⟩
 .rw[Uh]at hz
  obtain⟨a,B,rfl⟩:=hz;have C:=A a B;unfold Inf.PS.n at C;omega
 .rw[jBt,h.ts]
  simp only[jBI]
 .refine h.rp.more h.dl h.back (fun i hi=>?_) (fun i hi=>jv5 (by omega)) (fun i hi=>jv6 (by omega) rfl)
  have:=h.wn.flt (i:=i) (by omega);omega
 .exact(Inf.ok_app h.back (Inf.back_app h.back A) h.dl).2 h.ok
 .have:=h.bt b hb
  unfold Inf.PS.n at *;simp;omega
 .have:=h.bl
  unfold Inf.PS.n at *;simp;omega
theorem juc (P:Inf.PS) (k:Nat) (xs:List Nat):(P.add k xs).bs=P.bs:=by unfold Inf.PS.add;split <;> rfl
variable {kv:Value}{zs:List Int}
theorem jp8 (h:ST c w κ P N) (U:N<100000) (k:Nat) {xs:List Nat}(hk:KS w kv zs) (R:zs.length<=999) (O:P.st=none->zs=xs.map (fun n:Nat=>(n:Int))/\∀a ∈ xs,a<P.n) (H:k=0->xs=[]) :
 Calls Tryz.prog 68 #[.pointer (some ⟨c.wb,1,none⟩),.int .i64 (k:Nat),kv] w (NP c κ w P (P.add k xs) (N+1) P.n):=by
 obtain⟨ht,bv,v,ns,W,h⟩:=h
 rcases h with h|⟨u,p,hs,h⟩
 .refine(add_any h.wm (by omega) k hk (by omega)).mono ?_
  rintro e w' ⟨rfl,B,C,F,I,A⟩;obtain⟨rfl,K⟩:=O h.pn.run
  have E:Rn c w' B bv C _ (P.add k xs):=⟨I,by rw[juc];exact h.bm.keep A (by rintro (e|e) <;> cases e),h.pn.add K H F⟩
  refine⟨B,_,rfl,A.mono (fun t e=>by rcases e with e|e;exact .inl e;exact .inr (.inl e)),⟨ht.keep A,bv,C,_,by rw[Yg];show _+1<=_;omega,.inl E⟩,Inf.Gr.add P k xs,fun _=>⟨by rw[h.pn.n],?_⟩⟩;rw[Inf.add_run h.pn.run];unfold Inf.PS.n;simp
 .refine(add_any h (by omega) k hk (by omega)).mono ?_
  rintro e w' ⟨rfl,B,C,F,I,A⟩;refine⟨B,_,rfl,A.mono (fun t e=>by rcases e with e|e;exact .inl e;exact .inr (.inl e)),⟨ht.keep A,bv,C,_,by rw[Yg];show _+1<=_;omega,.inr ⟨u,p,by rw[Inf.add_stop hs];exact hs,I⟩⟩,Inf.Gr.add P k xs,fun E=>?_⟩;rw[Inf.add_stop hs,hs]at E;cases E
theorem Pn.dem {c:Wc}{w w':World}{κ:Kp}{bv v:Value}{ns:List NM}{P:Inf.PS}{a b N:Nat}{p:Int}{e:Ending}(h:Pn ns P) (F:BM w κ bv P.bs) (ht:TM c w κ) (K:ns.length<=N) (U:a<P.n) (R:b<P.n) (hd:DP κ c.wb c.pv bv 0 p v ns a b w e w'):VP c κ w P (P.dem a b p) N e w':=by
 obtain⟨rfl,H,Y,B,C,hd⟩:=hd;have E:Fr SW κ κ w w':=C.mono (fun t e=>by rcases e with e|e|e;exact .inl e;exact .inr (.inl e);exact .inr (.inr (.inl e)));rw[h.ts]at hd
 rcases hd with⟨I,m',O,W⟩|⟨I,m',O⟩
 .obtain⟨hr,ho⟩:=Inf.same_yes h.rp h.ok h.bare O W
  have e:P.dem a b p={P with D:=P.D ++[(a,b)]}:=by unfold Inf.PS.dem;rw[h.run];simp only[if_pos ho]
  refine⟨rfl,κ,E,⟨ht.keep C,bv,v,H,by rw[B.len];exact K,.inl ?_⟩,Inf.Gr.dem P a b p⟩;rw[e];refine⟨I,F.keep C (by rintro (e|e|e) <;> cases e),Y,by rw[B.ts];exact h.ts,hr,ho,h.bare,h.back,?_,h.bt,h.bl,h.bx,h.run⟩;intro q A;rcases Yq.1 A with A|A
  .exact h.dl q A
  .rw[Kf]at A;subst A;exact⟨U,R⟩
 .have ho:=Inf.same_no h.rp h.ok h.bare O
  have e:P.dem a b p={P with st:=some (false,p)}:=by unfold Inf.PS.dem;rw[h.run];simp only[if_neg ho]
  refine⟨rfl,κ,E,⟨ht.keep C,bv,v,H,by rw[B.len];exact K,.inr ⟨false,p,by rw[e],I⟩⟩,Inf.Gr.dem P a b p⟩
variable {y:Int}{a b:Nat}
theorem jHI (h:ST c w κ P N) {x:Int}(p:Int) (A:P.st=none->x=(a:Nat)/\a<P.n/\y=(b:Nat)/\b<P.n) :
 Calls Tryz.prog 90 #[.pointer (some ⟨c.wb,0,none⟩),.int .i64 x,.int .i64 y,.int .i64 p] w (VP c κ w P (P.dem a b p) N):=by
 obtain⟨ht,bv,v,ns,B,h⟩:=h
 rcases h with h|⟨u,q,hs,h⟩
 .obtain⟨rfl,ha,rfl,hb⟩:=A h.pn.run
  refine(jz0 h.wm h.pn.wn (by rw[h.pn.n];exact ha) (by rw[h.pn.n];exact hb) p).mono ?_;intro e w' hd;exact h.pn.dem h.bm ht B ha hb hd
 .refine(jzZ h (jtU u) x y p).mono ?_
  rintro e w' ⟨rfl,rfl⟩;exact⟨rfl,κ,Fr.refl _ _ _,⟨ht,bv,v,ns,B,.inr ⟨u,q,by rw[Inf.dem_stop hs];exact hs,h⟩⟩,Inf.Gr.dem P a b p⟩
theorem jrr (a b c d:Int) (x y:Option Addr) (l m n o:Nat) (w:World):Sem.run Tryz.prog (Instr.field 138 (.agg #[.int .i64 a,.int .i64 b,.int .i64 c,.int .i64 d,.slice x l m,.slice y n o]) 0) w= .ok (.int .i64 a) w:=by kernel_rfl
theorem jzI (a b c d:Int) (x y:Option Addr) (l m n o:Nat) (w:World):Sem.run Tryz.prog (Instr.field 138 (.agg #[.int .i64 a,.int .i64 b,.int .i64 c,.int .i64 d,.slice x l m,.slice y n o]) 1) w= .ok (.int .i64 b) w:=by kernel_rfl
structure PtV (c:Wc) (i:Nat) (q:CP) (na ka:Option Addr) (nc kc:Nat):Prop where
 at':c.ps[i]? =some q
 vs:c.vs[i]? =some (.slice na q.ns.length nc,.slice ka q.ks.length kc)
variable {q:CP}
theorem TM.part (h:TM c w κ) (A:c.ps[i]? =some q):∃na ka nc kc,PtV c i q na ka nc kc:=by
 have C:=(jG A).1;have e:c.ps[i]=q:=(jG A).2;have B:i<c.vs.length:=by rw[h.at'.len];exact C
 have F:=h.at'.rows i C B;obtain⟨O,K,E⟩:=joG F.names;obtain⟨I,R,H⟩:=joG F.kids;rw[e]at E H;refine⟨O,I,K,R,A,?_⟩;rw[Yb B,<-E,<-H]
theorem jn7 (h:TM c w κ) {B C:Option Addr}{nc kc:Nat}(A:PtV c i q B C nc kc) :
 Calls Tryz.prog 91 #[.agg #[c.pv],.int .i64 (i:Nat)] w fun e w'=>e= .returned (.agg #[.int .i64 (q.k:Nat),.int .i64 (q.a:Nat),.int .i64 (q.wd:Nat),.int .i64 q.nm,.slice B q.ns.length nc,.slice C q.ks.length kc])/\Below w.heap.size w w':=by
 have F:=(jG A.at').1;have e:c.ps[i]=q:=(jG A.at').2;have E:=(jG A.vs).1;have H:=(jG A.vs).2;have:=jxn h.big h.at' F E;rw[e,H]at this;exact this
variable {z:Int}
theorem jFn (h:TM c w κ) {j kd:Nat}(C:c.ps[i]? =some q) (F:q.ks[j]? =some (kd:Int)) (B:kd<i) (A:q.ks.length<=100000) (E:z=(j:Nat)) :
 Calls Tryz.prog 106 #[.agg #[c.pv],.int .i64 (i:Nat),.int .i64 z] w fun e w'=>e= .returned (.int .i64 (kd:Nat))/\Below w.heap.size w w':=by
 subst E;have H:=(jG C).1;have e:c.ps[i]=q:=(jG C).2;exact jBC h.big h.at' H (by rw[e];exact F) (by rw[e];exact A) B
def WC (c:Wc) (x:Inf.X):Prop:=∀(w:World) (κ:Kp) (P:Inf.PS) (N i:Nat) (o:Int),ST c w κ P N->XA c.ps i x->(P.st=none->-1<=o/\o<(P.bs.length:Nat))->N+16*Inf.sz x<=90000->
 Calls Tryz.prog 89 #[.pointer (some ⟨c.wb,0,none⟩),.int .i64 (i:Nat),.int .i64 o] w (NP c κ w P (Inf.pW x o P).2 (N+16*Inf.sz x) (Inf.pW x o P).1)
variable {x:Inf.X}
theorem XA.get {ps:List CP}(h:XA ps i x):∃q,ps[i]? =some q/\(q.a:Int)=x.p:=by
 cases x with
 |nd k p xs kids=>
  rw[XA]at h;obtain⟨q,ks,A,_,B,_⟩:=h;exact⟨q,A,B⟩
theorem TM.pvs (h:TM c w κ):∃a n cap,c.pv= .slice a n cap:=by
 obtain⟨a,cap,e⟩:=joG h.at'.own;exact⟨a,_,cap,e⟩
variable {o:Int}
set_option maxRecDepth 100000 in
theorem jrn (hx:WC c x) (h:ST c w κ P N) (B:XA c.ps i x) (ho:P.st=none->-1<=o/\o<(P.bs.length:Nat)) (Y:N+16*Inf.sz x<=90000) (Z:P.st=none->y=(b:Nat)/\b<P.n) :
 Calls Tryz.prog 69 #[.pointer (some ⟨c.wb,0,none⟩),.int .i64 (i:Nat),.int .i64 o,.int .i64 y] w (VP c κ w P ((Inf.pW x o P).2.dem (Inf.pW x o P).1 b x.p) (N+16*Inf.sz x)):=by
 have CW:=jH (hx w κ P N i o h B ho Y);obtain⟨q,hq,hp⟩:=B.get;obtain⟨na,ka,nc,kc,hv⟩:=h.tm.part hq;have HV:=jH hv;obtain⟨pa,pn,pc,F⟩:=h.tm.pvs;have W:=jH F;have HP:=jH hp;have HY:=jH Z;obtain⟨qk,qa,qw,qn,h3,h4⟩:=q;have CF:=jH (jzI (qk:Nat) (qa:Nat) (qw:Nat) qn na ka h3.length nc h4.length kc);clear hx h B ho Y hq hv F hp Z
 go_enter Tryz.func69,Tryz.ntmps69
 go_upto_region 1 with(go_at_call 89;refine CW.o.mono ?_;rintro _ w1 ⟨κ1,z1,rfl,R,A,H,U⟩;obtain⟨h9,a1,c0,_,_,_⟩:=A.err;rw[W.o]at c0;have h7:=A.lt;have h2:=jH R;have C:=jH A;have I:=jH H;have h5:=jH U;clear R A H U)
 have K:=jH (jn7 C.o.tm HV.o);rw[W.o]at K;have h8:=CF.o
 go_wp2_with (first
  |(go_at_call 91;refine K.o.mono ?_;rintro _ w2 ⟨rfl,E⟩;have O:=jH E;clear E)
  |(go_at_call 90;refine(jHI (a:=(Inf.pW x o P).1) (b:=b) (C.o.on O.o) _ ?_).mono ?_;(intro hr;obtain⟨e1,l1⟩:=h5.o hr;obtain⟨r0,n0,_⟩:=I.o hr;obtain⟨e2,l2⟩:=HY.o r0;exact⟨e1,l1,e2,by omega⟩);rintro _ w3 ⟨rfl,κ3,h6,h0,h1⟩))
 go_returns;refine⟨rfl,κ3,(h2.o.trans (Fr.of O.o)).trans h6,?_,I.o.trans ?_⟩
 .have:=h0
  rw[HP.o]at this;exact this
 .have:=h1
  rw[HP.o]at this;exact this
variable {k:Nat}
set_option maxRecDepth 100000 in
theorem jrZ (K:WC c x) (h:ST c w κ P N) (I:XA c.ps i x) (H:P.st=none->-1<=o/\o<(P.bs.length:Nat)) (U:z=(k:Nat)) (Y:N+1+16*Inf.sz x<=90000) :
 Calls Tryz.prog 33 #[.pointer (some ⟨c.wb,0,none⟩),.int .i64 (i:Nat),.int .i64 o,.int .i64 z] w (VP c κ w P (Inf.pP k x o P) (N+1+16*Inf.sz x)):=by
 subst U;have CA:=jH (jp8 h (by omega) k (KS.nil w) (by simp) (xs:=[]) (fun _=>⟨rfl,fun a ha=>by cases ha⟩) (fun _=>rfl));have HX:=jH K;have HA:=jH I;have HO:=jH H;have hl:=h.lt;clear K h I H
 go_enter Tryz.func33,Tryz.ntmps33
 go_wp2_with (first
  |(go_at_call 68;refine CA.o.mono ?_;rintro _ w1 ⟨κ1,z1,rfl,B,A,E,C⟩;have h1:=jH B;have O:=jH A;have F:=jH E;have Z:=jH C;clear B A E C)
  |(go_at_call 69;refine(jrn (b:=P.n) HX.o O.o HA.o (fun hr=>?_) Y (fun hr=>?_)).mono ?_;(obtain⟨r0,_,b0⟩:=F.o hr;have:=HO.o r0;omega);(exact Z.o hr);rintro _ w3 ⟨rfl,κ3,h0,R,W⟩))
 go_returns;refine⟨rfl,κ3,h1.o.trans h0,?_,?_⟩
 .rw[Inf.pP];exact R
 .rw[Inf.pP];exact F.o.trans W
theorem KS.one (w:World) (z:Int):KS (w.alloc (.cells #[.int .i64 z] 3 (0,0))) (.slice (some ⟨w.heap.size,0,none⟩) 1 1) [z]:=by
 refine .inr ⟨⟨w.heap.size,0,none⟩,1,rfl,fun j u hj=>?_⟩;have A:=jg w (.cells #[.int .i64 z] 3 (0,0))
 cases j with
 |zero=>
  have e:Value.int .i64 z=u:=by simpa[iV] using hj
  subst e;rw[jmX];exact ja A 0 rfl
 |succ j=>simp[iV]at hj
set_option maxRecDepth 100000 in
theorem jzi (Y:WC c x) (h:ST c w κ P N) (Z:XA c.ps i x) (ho:P.st=none->-1<=o/\o<(P.bs.length:Nat)) (hN:N+2+16*Inf.sz x<=90000) :
 Calls Tryz.prog 121 #[.pointer (some ⟨c.wb,0,none⟩),.int .i64 (i:Nat),.int .i64 o] w (NP c κ w P (Inf.pE x o P).2 (N+2+16*Inf.sz x) P.n):=by
 have CA:=jH (jp8 h (by omega) 0 (KS.nil w) (by simp) (xs:=[]) (fun _=>⟨rfl,fun a ha=>by cases ha⟩) (fun _=>rfl));have HX:=jH Y;have HA:=jH Z;have HO:=jH ho;have hl:=h.lt;clear Y h Z ho
 go_enter Tryz.func121,Tryz.ntmps121
 go_upto_region 2 with(go_at_call 68;refine CA.o.mono ?_;rintro _ w1 ⟨κ1,z1,rfl,R,A,I,U⟩;have h9:=A.lt;have h5:=jH R;have h0:=jH A;have K:=jH I;have W:=jH U;clear R A I U)
 have h7:=jH (jp8 (h0.o.on (jB.alloc jN (.cells #[.int .i64 z1] 3 (0,0)))) (by omega) 4 (KS.one w1 z1) (by simp) (xs:=[P.n]) (fun hr=>by
  obtain⟨e,l⟩:=W.o hr;subst e
  exact⟨rfl,fun a ha=>by rw[Kf]at ha;subst ha;exact l⟩) (fun e=>by cases e))
 go_upto_region 3 with(go_at_call 68;refine h7.o.mono ?_;rintro _ w2 ⟨κ2,z2,rfl,E,B,O,H⟩;have k1:=B.lt;have h4:=jH E;have h6:=jH B;have C:=jH O;have h3:=jH H;clear E B O H)
 have HR:=jH (show((P.add 0 []).add 4 [P.n]).st=none->P.st=none/\z1=(P.n:Nat)/\(P.add 0 []).n=P.n+1/\P.bs.length<=((P.add 0 []).add 4 [P.n]).bs.length from fun hr=>by
  obtain⟨r1,n1,b1⟩:=C.o hr;obtain⟨r0,n0,b0⟩:=K.o r1;refine⟨r0,(W.o r1).1,?_,by omega⟩
  rw[Inf.add_run r0];unfold Inf.PS.n;simp)
 go_wp2_with (go_at_call 69;refine(jrn (b:=P.n+1) HX.o h6.o HA.o (fun hr=>?_) hN (fun hr=>?_)).mono ?_;(obtain⟨r0,_,_,b0⟩:=HR.o hr;have:=HO.o r0;omega);(obtain⟨r0,_,n1,_⟩:=HR.o hr;obtain⟨e2,l2⟩:=h3.o hr;rw[<-n1];exact⟨e2,l2⟩);rintro _ w3 ⟨rfl,κ3,h8,h1,F⟩)
 go_returns;rw[Inf.pE];refine⟨κ3,z1,rfl,((h5.o.trans (Fr.of (jB.alloc jN _))).trans h4.o).trans h8,h1,(K.o.trans C.o).trans F,fun hr=>?_⟩;obtain⟨r2,n2,_⟩:=F hr;obtain⟨r0,e,n1,_⟩:=HR.o r2;have h2:=(C.o r2).2.1;exact⟨e,Yj (by omega:P.n<(P.add 0 []).n) (Ym h2 n2)⟩
theorem jzh (h:ST c w κ P N) {xs:List Nat}(hk:w.ownsRow 0 3 1 kv (zs.length+1) (iV (z ::zs))) (F:∀b,kv.ownBlock=some b->κ b=none) (H:0<zs.length) (C:zs.length<900) (y p:Int) (hN:N<90000)
 (R:P.st=none->z=(a:Nat)/\a<P.n/\zs=xs.map (fun n:Nat=>(n:Int))/\(∀a ∈ xs,a<P.n)/\y=(b:Nat)/\b<P.n) :
 Calls Tryz.prog 116 #[.pointer (some ⟨c.wb,0,none⟩),kv,.int .i64 y,.int .i64 p] w (VP c κ w P ((P.add 6 (xs ++[b])).dem a P.n p) (N+1)):=by
 obtain⟨ht,bv,v,ns,hn,h⟩:=h;have B:∀b,kv.ownBlock=some b->∀t,κ b=some t->t≠(0,0)/\t≠(1,0):=fun b hb t ht=>by rw[F b hb]at ht;cases ht
 have hS:∀t:Tag,(t=(0,0)\/t=(1,0))->SW t:=fun t e=>by rcases e with e|e;exact .inl e;exact .inr (.inl e)
 rcases h with h|⟨u,q,hs,h⟩
 .obtain⟨rfl,A,rfl,hxs,rfl,hb⟩:=R h.pn.run
  have O:=h.pn.n;refine(jFz h.wm h.pn.wn (by omega) hk (by omega) (fun z C=>?_) H (by omega) B (b:Nat) (by omega) p).mono ?_
  .rw[Uh]at C
   obtain⟨a,A,rfl⟩:=C;have:=hxs a A;omega
  .rintro e w' ⟨κ1,v1,kv1,w1,hf1,hd⟩
   have e6:xs.map (fun n:Nat=>(n:Int)) ++[(b:Int)]=(xs ++[b]).map (fun n:Nat=>(n:Int)):=by simp
   rw[e6]at hd
   have Y:∀a ∈ xs ++[b],a<P.n:=fun a A=>by
    rcases Yq.1 A with A|A
    .exact hxs a A
    .rw[Kf]at A;subst A;exact hb
   have E:=h.pn.add (k:=6) Y (fun e=>by cases e) kv1;have U:BM w1 κ1 bv (P.add 6 (xs ++[b])).bs:=by rw[juc];exact h.bm.keep hf1 (by rintro (e|e) <;> cases e)
   have W:P.n<(P.add 6 (xs ++[b])).n:=by rw[Inf.add_run h.pn.run];unfold Inf.PS.n;simp
   rw[O]at hd E;obtain⟨rfl,κ3,h1,I,K⟩:=E.dem (N:=N+1) U (ht.keep hf1) (by rw[Yg];show _+1<=_;omega) (by omega) W hd;exact⟨rfl,κ3,(hf1.mono hS).trans h1,I,(Inf.Gr.add P _ _).trans K⟩
 .refine(jFy h (jtU u) (by omega) hk H (by omega) B y p).mono ?_
  rintro e w' ⟨rfl,κ',v',h2,hm,Z⟩;exact⟨rfl,κ',Z.mono hS,⟨ht.keep Z,bv,v',_,by rw[Yg];show _+1<=_;omega,.inr ⟨u,q,by rw[Inf.add_stop hs,Inf.dem_stop hs];exact hs,hm⟩⟩,(Inf.Gr.add P _ _).trans (Inf.Gr.dem _ _ _ _)⟩
theorem jvs {base size n:Nat}{e:TypeId}{v:Value}{xs:List Value}(h:w.ownsRow base e size v n xs):w.ownsRow 0 e size v n xs:=⟨h.1,h.2.imp id fun⟨g,cap,cur,h1,h2,h3⟩=>⟨g,cap,cur,h1,Yi _,h3⟩⟩
theorem jvN (t i:Nat):kdL t i=(Inf.rng t i).map (fun n:Nat=>(n:Int)):=by
 unfold kdL Inf.rng;rw[List.map_map];rfl
variable {t:Nat}
theorem ju6 (h:a ∈ Inf.rng t i):a<t+i:=by
 unfold Inf.rng at h;rw[Uh]at h;obtain⟨j,A,rfl⟩:=h;rw[Ub]at A;show t+j<_;omega
theorem Pn.opn {A:List NM}(h:Opn ns A i) (E:Pn ns P):Pn A {P with ts:=P.ts ++List.replicate i ⟨0,[]⟩}:=by
 induction i generalizing A with
 |zero=>
  obtain⟨zs,rfl,B,_⟩:=h;rw[Yh B,Kd];have e:({P with ts:=P.ts ++List.replicate 0 ⟨0,[]⟩}:Inf.PS)=P:=by simp
  rw[e];exact E
 |succ i ih=>
  obtain⟨zs,rfl,B,F⟩:=h
  obtain⟨ys,m,rfl⟩:∃ys m,zs=ys ++[m]:=⟨zs.dropLast,zs.getLast (by intro e;rw[e]at B;cases B),(List.dropLast_concat_getLast _).symm⟩
  have C:ys.length=i:=by rw[Yg]at B;simpa using B
  have H:=F i m (by rw[Ud (by omega),C,Nat.sub_self];rfl);have I:=ih ⟨ys,rfl,C,fun j c hj=>F j c (by rw[Kb (jG hj).1];exact hj)⟩;rw[<-Yu];obtain⟨mk,R,O,K⟩:=m;obtain⟨rfl,rfl,rfl⟩:=H;have:=I.add (k:=0) (xs:=[]) (fun a ha=>by cases ha) (fun _=>rfl) K;rw[show(ns ++ys).length=ns.length+i by rw[Yg,C],Inf.add_run (by exact E.run)]at this;rw[show P.ts ++List.replicate (i+1) (⟨0,[]⟩:Inf.Ty)=P.ts ++List.replicate i ⟨0,[]⟩ ++[⟨0,[]⟩] by rw[Yu,<-List.replicate_succ']];exact this
variable {xs:List ByteArray}
theorem jIX {p:Int}{b:Inf.Bd}(h:b ∈ bdL xs p t k o i):b.t<t+i:=by
 unfold bdL at h;rw[Uh]at h;obtain⟨j,A,rfl⟩:=h;rw[Ub]at A;show t+j<_;omega
theorem jIZ {p:Int}{b:Inf.Bd}(A:∀x ∈ xs,x.size<=1000) (h:b ∈ bdL xs p t k o i):b.x.size<=1000:=by
 unfold bdL at h;rw[Uh]at h;obtain⟨j,B,rfl⟩:=h;show((xs[j]?).getD ⟨#[]⟩).size<=1000
 cases e :xs[j]? with
 |none=>exact Yi _
 |some x=>exact A x (Yo e)
theorem Pn.bind {C:List NM}(h:Opn ns C xs.length) (B:Pn ns P) (E:∀x ∈ xs,x.size<=1000) (p o:Int):Pn C (P.bind xs p o):=by
 rw[bind_run xs P p o B.run];have q:=Pn.opn h B;refine⟨q.wn,q.ts,q.rp,q.ok,q.bare,q.back,q.dl,fun b A=>?_,?_,fun b A=>?_,q.run⟩
 .unfold Inf.PS.n at *
  simp only[Yg,List.length_replicate]at *;rcases Yq.1 A with A|A
  .have:=B.bt b A;unfold Inf.PS.n at this;omega
  .exact jIX A
 .have:=B.bl
  unfold Inf.PS.n at *;simp only[Yg,List.length_replicate,jt6];omega
 .rcases Yq.1 A with A|A
  .exact B.bx b A
  .exact jIZ E A
theorem jt4 (h:P.st=none) (xs:List ByteArray) (p o:Int):(P.bind xs p o).n=P.n+xs.length/\(P.bind xs p o).bs.length=P.bs.length+xs.length/\(P.bind xs p o).st=none:=by
 rw[bind_run xs P p o h];unfold Inf.PS.n;simp[jt6,h]
def BU (c:Wc) (κ:Kp) (w:World) (P:Inf.PS) (N:Nat) (xs:List ByteArray) (p o:Int) (e:Ending) (w':World):Prop:=
 ∃(κ':Kp) (a:Option Addr) (cp:Nat),e= .returned (.tuple #[.int .i64 (Inf.inn P xs o),.slice a xs.length cp])/\Fr SW κ κ' w w'/\ST c w' κ' (P.bind xs p o) (N+xs.length)/\
  w'.ownsRow 0 3 1 (.slice a xs.length cp) xs.length (iV (kdL P.n xs.length))/\∀b,(Value.slice a xs.length cp).ownBlock=some b->κ' b=none
theorem jt3 {F H:Option Addr}{nc kc:Nat}(h:ST c w κ P N) (K:P.st=none) (B:PtV c i q F H nc kc) (R: -1<=o/\o<(P.bs.length:Nat)) (Z:q.ns.length<=6) (I:∀x ∈ q.ns,x.size<=1000) (hN:N+6<90000) :
 Calls Tryz.prog 114 #[.pointer (some ⟨c.wb,0,none⟩),.agg #[.int .i64 (q.k:Nat),.int .i64 (q.a:Nat),.int .i64 (q.wd:Nat),.int .i64 q.nm,.slice F q.ns.length nc,.slice H q.ks.length kc],.int .i64 o] w (BU c κ w P N q.ns (q.a:Nat) o):=by
 obtain⟨ht,bv,v,ns,hn,h⟩:=h
 rcases h with h|⟨u,p,hs,h⟩
 .have hl:=(jG B.at').1
  have e:c.ps[i]=q:=(jG B.at').2;have W:=(jG B.vs).1;have e':=(jG B.vs).2;have C:=ht.at'.rows i hl W;rw[e,e']at C;have h0:=h.pn.bl;have E:=h.pn.n;refine(jIP h.wm h.bm (xs:=q.ns) (p:=(q.a:Nat)) (o:=o) C.names (ht.tv i _ B.vs).1 R (by omega) (by omega)).mono ?_;rintro e w' ⟨PO,h1,O,Y,v',U,rfl,A⟩;obtain⟨a,cp,hk⟩:=j5 A.kr;subst hk;have hS:Fr SW κ O w w':=A.fr.mono (fun t e=>by rcases e with e|e|e;exact .inl e;exact .inr (.inl e);exact .inr (.inr (.inr e)));refine⟨O,a,cp,?_,hS,⟨ht.keep A.fr,Y,v',U,by rw[A.op.len];omega,.inl ⟨A.wm,?_,Pn.bind A.op h.pn I _ _⟩⟩,?_,A.kt⟩
  .rw[jFB]
  .rw[bind_run q.ns P _ o h.pn.run]
   have:=A.bm;rw[E]at this;exact this
  .have:=jvs A.kr
   rw[E]at this;exact this
 .rw[K]at hs;cases hs
theorem jJg (h:ST c w κ P N) (Y:N<90000) {xs:List Nat}(hk:KS w kv zs) (W:zs.length<=900) (R:P.st=none->zs=xs.map (fun n:Nat=>(n:Int))/\(∀a ∈ xs,a<P.n)/\y=(b:Nat)/\b<P.n) :
 Calls Tryz.prog 117 #[.pointer (some ⟨c.wb,1,none⟩),kv,.int .i64 y] w (NP c κ w P (P.add 6 (xs ++[b])) (N+1) P.n):=by
 obtain⟨ht,bv,v,ns,hn,h⟩:=h;have K:∀t:Tag,(t=(0,0)\/t=(1,0))->SW t:=fun t e=>by rcases e with e|e;exact .inl e;exact .inr (.inl e)
 rcases h with h|⟨u,p,hs,h⟩
 .refine(jud h.wm (by omega) hk (by omega) y).mono ?_
  rintro e w' ⟨rfl,F,H,E,C,A⟩;obtain⟨rfl,I,rfl,U⟩:=R h.pn.run;have Z:xs.map (fun n:Nat=>(n:Int)) ++[(b:Int)]=(xs ++[b]).map (fun n:Nat=>(n:Int)):=by simp
  rw[Z]at C
  have O:∀a ∈ xs ++[b],a<P.n:=fun a B=>by
   rcases Yq.1 B with B|B
   .exact I a B
   .rw[Kf]at B;subst B;exact U
  refine⟨F,_,rfl,A.mono K,⟨ht.keep A,bv,H,_,by rw[Yg];show _+1<=_;omega,.inl ⟨C,by rw[juc];exact h.bm.keep A (by rintro (e|e) <;> cases e),h.pn.add O (fun e=>by cases e) E⟩⟩,Inf.Gr.add P _ _,fun _=>⟨by rw[h.pn.n],?_⟩⟩;rw[Inf.add_run h.pn.run];unfold Inf.PS.n;simp
 .refine(jud h (by omega) hk (by omega) y).mono ?_
  rintro e w' ⟨rfl,F,H,E,C,A⟩;refine⟨F,_,rfl,A.mono K,⟨ht.keep A,bv,H,_,by rw[Yg];show _+1<=_;omega,.inr ⟨u,p,by rw[Inf.add_stop hs];exact hs,C⟩⟩,Inf.Gr.add P _ _,fun hr=>?_⟩;rw[Inf.add_stop hs,hs]at hr;cases hr
theorem jEC (h:ST c w κ P N) (A:P.st=none) (x:ByteArray) (p:Int) {kids:List Inf.X}(I:xs.headD ⟨#[]⟩=x) (E: -1<=o/\o<(P.bs.length:Nat)) :
 Calls Tryz.prog 113 #[.pointer (some ⟨c.wb,0,none⟩),.string x,.int .i64 p,.int .i64 o] w (NP c κ w P (Inf.pW (.nd 5 p xs kids) o P).2 N (Inf.pW (.nd 5 p xs kids) o P).1):=by
 obtain⟨ht,bv,v,ns,K,h⟩:=h
 rcases h with h|⟨u,p,hs,h⟩
 .refine(named_any h.wm h.bm x p o E.1 E.2).mono ?_
  intro e w' O;simp only[Inf.pW,I]
  rcases O with⟨t,C,rfl,B⟩|⟨C,rfl,F,H⟩
  .rw[C]
   refine⟨κ,_,rfl,Fr.of B,⟨ht.on B,bv,v,ns,K,.inl (h.on B)⟩,Inf.Gr.refl P,fun _=>⟨rfl,?_⟩⟩
   have F:∀(f:Nat) (o:Int),Inf.named P.bs x f o=some t->t<P.n:=by
    intro f
    induction f with
    |zero=>intro o h;cases h
    |succ f ih=>
     intro o ht;rw[Inf.named]at ht
     split at ht
     .cases ht
     .split at ht
      .cases ht
      .rename_i b B
       split at ht
       .cases ht;exact h.pn.bt b (Yo B)
       .exact ih _ ht
   exact F _ _ C
  .rw[C]
   have e:P.fail p={P with st:=some (true,p)}:=by unfold Inf.PS.fail;rw[A]
   refine⟨κ,_,rfl,H.mono (fun t e=>.inl e),⟨ht.keep H,bv,v,ns,K,.inr ⟨true,p,by show(P.fail p).st=_;rw[e],F⟩⟩,fun A=>?_,fun A=>?_⟩
   .simp only[e]at A;cases A
   .simp only[e]at A;cases A
 .rw[A]at hs;cases hs
end Tg
end Go.Proofs.YtlpmpelnhdoboaaGreatDoor
