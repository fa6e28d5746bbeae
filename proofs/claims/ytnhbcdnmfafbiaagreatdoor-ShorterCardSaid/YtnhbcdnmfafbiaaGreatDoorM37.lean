import Derived.Test.YtnhbcdnmfafbiaaGreatDoorM32
import Derived.Test.YtnhbcdnmfafbiaaGreatDoorM36
set_option linter.unusedVariables false
set_option linter.unusedSimpArgs false
set_option maxHeartbeats 20000000
set_option maxRecDepth 100000
namespace Go.Proofs.YtnhbcdnmfafbiaaGreatDoor
namespace V
open Go.Proofs Go.RowKit
theorem kiI:(Tryz.prog.info? 3).map (fun i=>(i.zero,i.size,i.bytes))=some (some (.int .i64 0),1,8):=by kernel_rfl
theorem kuI:Tryz.prog.underlying 22=some (.slice 3):=by kernel_rfl
theorem jyU (n:Nat) (hn:n<=1000000) (w:World):(Instr.makeSlice 22 (.int .i64 (n:Int)) (.int .i64 (n:Int))).run Tryz.prog w= .ok (.slice (some ⟨w.heap.size,0,none⟩) n n) (w.alloc (.cells (mV (List.replicate n 0)) 3)):=by
 obtain⟨i,hi,G,hs,E⟩:=info_parts kiI;have B:=run_make (P:=Tryz.prog) w 22 3 i _ kuI hi G .i64 .i64 n (n:Int) (by omega) (by omega) (by rw[E];omega) (by omega);rw[hs]at B;simp only[Int.toNat_natCast,Nat.mul_one]at B
 have e:madeCells (Value.int .i64 0).cells n=mV (List.replicate n 0):=by
  apply Array.toList_inj.1;rw[show(Value.int IntKind.i64 0).cells=#[.int .i64 0] from rfl,toList_madeCells_one];unfold mV;rw[List.map_replicate]
 rw[e]at B;exact B
theorem jYF:jRb Tryz.prog 180:=⟨⟨_,Tryz.func180,by kernel_rfl,by kernel_rfl⟩⟩
theorem jUj (w:World) (B:Obj):(w.alloc B).heap[w.heap.size]? =some B:=Array.getElem?_push_size
theorem jW2 {ns:List (List C)}{w W:World}{A:Nat->Prop}{k o:Nat}{F:List Nat}{arr:Array Value}{ty:TypeId}{fz:Nat × Nat}{n:Nat}(B:Gn ns) (M:∀g,A g->g<w.heap.size) (E:Lie false w A k o [.r true 3 ns] F arr ty fz) (J:(k ::F).Nodup) (hn:n<=1000000) (hW:(w.alloc (.cells (mV (List.replicate n 0)) 3 (0,0))).alloc (.cells #[.pointer (some ⟨k,o,none⟩),.slice (some ⟨w.heap.size,0,none⟩) n n] 248 (0,0))=W) :
 Sc ns A k o F arr ty fz (w.heap.size+1) w.heap.size n w.heap.size/\Sw ns A k o F arr ty fz (w.heap.size+1) w.heap.size n W (List.replicate n 0)/\Below 0 w W/\∀g,g<w.heap.size->W.heap[g]? =w.heap[g]?:=by
 subst hW;have G:Below w.heap.size w (w.alloc (.cells (mV (List.replicate n 0)) 3 (0,0))):=(Below.refl _ _).alloc (Nat.le_refl _) _;have O:Below w.heap.size w ((w.alloc (.cells (mV (List.replicate n 0)) 3 (0,0))).alloc (.cells #[.pointer (some ⟨k,o,none⟩),.slice (some ⟨w.heap.size,0,none⟩) n n] 248 (0,0))):=G.alloc G.size _;have kp:=fun g B=>O.block g B;have hF:∀g ∈ F,g<w.heap.size:=fun g B=>E.rl.lt g B;refine⟨⟨B,J,M,jKi E.blk,hF,by omega,Nat.le_refl _,by omega,hn⟩,⟨E.on (kp _ (jKi E.blk)) (fun g B=>kp g (M g B)) (fun g B=>kp g (hF g B)),?_,?_,List.length_replicate⟩,O.mono (Nat.zero_le _),kp⟩
 .have:=jUj (w.alloc (.cells (mV (List.replicate n 0)) 3 (0,0))) (.cells #[.pointer (some ⟨k,o,none⟩),.slice (some ⟨w.heap.size,0,none⟩) n n] 248 (0,0))
  rw[World.size_alloc]at this;exact this
 .have h2:=(Below.refl (w.alloc (.cells (mV (List.replicate n 0)) 3 (0,0))).heap.size (w.alloc (.cells (mV (List.replicate n 0)) 3 (0,0)))).alloc (Nat.le_refl _) (.cells #[.pointer (some ⟨k,o,none⟩),.slice (some ⟨w.heap.size,0,none⟩) n n] 248 (0,0))
  exact(h2.block w.heap.size (by rw[World.size_alloc];omega)).trans (jUj w _)
theorem jVB {ns E:List (List C)}{a b:Int}{Z:Bool}(hm:Does T 218 [pGr ns,pI a,pI b] [pB Z] [[.r true 3 E]]) (h6:Gn E):Does T 180 [pGr ns,pI a,pI b] [pB (Z && !(lpF E (uns (List.replicate E.length 0)+1) (List.replicate E.length 0) a).1)] [[.r true 3 E]]:=by
 refine⟨jYF,fun c ok hst hX hu=>?_⟩;have hc:=hm.2 c ok hst hX hu;have t0:=ok.sx.sr.tms 0;have t1:=ok.sx.sr.tms 1;have t2:=ok.sx.sr.tms 2;rw[hst]at t0 t1 t2;obtain⟨k,o,h0,e0⟩:∃g a,(∀w',Agr (c.fp 0) c.w w'->ad w' (c.mo 0) 0 []=some (g,a))/\c.a 0= .pointer (some ⟨g,a,none⟩):=t0;have t1:RC c.w c.A (.i .i64 a) (c.a 1) []:=t1;have t2:RC c.w c.A (.i .i64 b) (c.a 2) []:=t2
 have e1:c.a 1= .int .i64 a:=by
  generalize c.a 1=v at t1;cases t1;rfl
 have e2:c.a 2= .int .i64 b:=by
  generalize c.a 2=v at t2;cases t2;rfl
 have h0:some ((c.mo 0).k,(c.mo 0).o+0)=some (k,o):=h0 c.w fun _ _=>rfl
 have ea:((List.range [pGr ns,pI a,pI b].length).map c.a)=[.pointer (some ⟨k,o,none⟩),.int .i64 a,.int .i64 b]:=by
  show[c.a 0,c.a 1,c.a 2]=_;rw[e0,e1,e2]
 rw[ea]at hc ⊢
 have CM:Hid (Calls Tryz.prog 218 #[.pointer (some ⟨k,o,none⟩),.int .i64 a,.int .i64 b] c.w fun e w'=>e= .returned (.bool Z)/\∃B:Cf,B.w=w'/\Ok T B/\Stp T c B/\B.st=jKl [pGr ns,pI a,pI b] [pB Z] [[.r true 3 E]]/\B.X=[]/\B.a RK= .bool Z):=by
  refine hc.mono ?_;rintro e w' ⟨B,v,rfl,rfl,M,V,P,k4,Y⟩;have tv:=M.sx.sr.tms RK;rw[P,Y]at tv;have tv:RC B.w B.A (.b Z) v []:=tv;cases tv;exact⟨rfl,B,rfl,M,V,P,k4,Y⟩
 have x2:=Lib.hid hst;have H0:=Lib.hid h0;have HG:=Lib.hid h6;clear hc t1 t2 e0 e1 e2 h0 ea hm hu hX hst h6;show Calls Tryz.prog 180 #[.pointer (some ⟨k,o,none⟩),.int .i64 a,.int .i64 b] c.w _
 cases Z with
 |false=>
  go_enter Tryz.func180,Tryz.ntmps180
  go_wp2_with (go_at_call 218;refine CM.out.mono ?_;rintro _ w1 ⟨rfl,B,J,M,V,P,k4,Y⟩)
  go_returns;exact⟨B,_,rfl,J,M,V,P,k4,Y⟩
 |true=>
  go_enter Tryz.func180,Tryz.ntmps180
  go_upto_region 3 with(go_at_call 218;refine CM.out.mono ?_;rintro _ w1 ⟨rfl,B,J,M,V,P,k4,Y⟩;have k9:=Lib.hid (And.intro J (And.intro M (And.intro V (And.intro P (And.intro k4 Y)))));clear J M V P k4 Y)
  obtain⟨J,M,V,P,k4,Y⟩:=k9.out;have h5:lkr T B.st.rt 0=some ⟨0,[.r true 3 E]⟩:=by rw[P];rfl
  obtain⟨R',Z,r2,r3,r4⟩:=V.pr 0 ⟨0,[.r true 3 ns]⟩ (by rw[x2.out];rfl) rfl;have k7:=M.sx.sr.rts 0 _ h5;unfold jJM at k7;rw[if_neg (by simp),if_neg (by simp[isV])]at k7;obtain⟨F',h1,q1,q2,q3,q4,q5,_⟩:=k7
  have h7:(B.mo 0).k=k/\(B.mo 0).o=o:=by
   have h:=H0.out;simp only[Nat.add_zero,Option.some.injEq,Prod.mk.injEq]at h;simp only[base,Prod.mk.injEq]at r4;exact⟨r4.1.trans h.1,r4.2.1.trans h.2⟩
  rw[h7.1]at q1 q2;rw[h7.2]at q2;have k6:=M.sx.sr.nd _ _ h5;rw[q1]at k6
  have O:Lie false w1 B.A k o [.r true 3 E] F' h1 (B.mo 0).ty (B.mo 0).fz:=by
   rw[<-J];exact⟨q2.blk,(fun e=>(by cases e)),q2.le,q2.rl⟩
  have r5:∀g,B.A g->g<w1.heap.size:=by rw[<-J];exact M.al
  have h9:=HG.out.n
  obtain⟨al,cap,h3⟩:∃al cap,w1.cell? ⟨k,o,none⟩=some (.slice al E.length cap):=by
   have h4:=O.rl;have x4:=O.le;simp only[List.length_singleton]at x4 h4
   obtain⟨v,hv⟩:∃v,h1[o]? =some v:=⟨_,Array.getElem?_eq_getElem (by omega)⟩
   have x6:(h1.toList.drop o).take 1=[v]:=by
    rw[<-Array.getElem?_toList]at hv;have r8:=(List.getElem?_eq_some_iff.1 hv).1;rw[List.drop_eq_getElem_cons r8,List.take_succ_cons,List.take_zero];rw[List.getElem?_eq_getElem r8]at hv;injection hv with hv
    rw[hv]
   rw[x6]at h4;rw[cell_of O.blk,hv];generalize hG:F'=G at h4
   cases h4 with
   |cons z1 z2=>
    cases z1 with
    |rn=>exact⟨none,0,rfl⟩
    |ro=>exact⟨_,_,rfl⟩
  have x3:=jKi O.blk
  obtain⟨n,hn⟩:∃n,E.length=n:=⟨_,rfl⟩
  rw[hn]at h9 h3;have x8:=jyU n h9;have HN:=Lib.hid hn;have v8:=Lib.hid O;have x1:=Lib.hid k6;have v6:=Lib.hid r5;clear J M V P k4 Y h5 Z r2 r3 r4 q1 q2 q3 q4 q5 h7 O k6 r5 hn
  go_upto_region 4 with fail
  generalize hWW:World.alloc _ _=W;obtain⟨r9,v1,hB,r6⟩:=jW2 HG.out v6.out v8.out x1.out h9 hWW;have CL:=Lib.hid (jEY r9 (uns (List.replicate n 0)+1) W (List.replicate n 0) a v1 (Nat.lt_succ_self _));have HB:=Lib.hid hB;have v7:=Lib.hid r6
  obtain⟨lp,h8⟩:∃lp,(lpF E (uns (List.replicate n 0)+1) (List.replicate n 0) a).1=lp:=⟨_,rfl⟩
  rw[h8]at CL;have x0:=Lib.hid h8;clear hWW r9 v1 hB r6 h3 x3 h8
  go_wp2_with (go_at_call 219;refine CL.out.mono ?_;rintro _ w4 ⟨rfl,x5,r7⟩;have q9:=Lib.hid r7;clear x5 r7)
  go_returns;obtain⟨J,M,V,P,k4,Y⟩:=k9.out;subst J;have x9:=HB.out.size;have x7:∀g,g<B.w.heap.size->w4.heap[g]? =B.w.heap[g]?:=fun g hg=>(q9.out.kp g (by omega) (by omega)).trans (v7.out g hg);have k8:=HB.out.trans q9.out.low;obtain⟨g1,g2⟩:=M.world (w':=w4) (A':=B.A) (X':=[]) (fun g hg _=>x7 g hg) k8 (fun _ h=>h) (fun g hg=>⟨.inl hg,Nat.lt_of_lt_of_le (M.al g hg) k8.size⟩) List.nodup_nil (fun g hg=>by cases hg);obtain⟨p1,p2⟩:=g1.put (d:=RK) (x:=.c (.b (!lp))) (v:=.bool (!lp)) (RC.b _);rw[HN.out,x0.out];refine⟨_,.bool (!lp),rfl,?_,p1,(V.trans g2).trans p2,?_,rfl,?_⟩
  .rfl
  .show(⟨upT B.st.tm RK (.c (.b (!lp))),B.st.rt⟩:St)=_
   rw[P];rfl
  .show upd B.a RK (.bool (!lp)) RK=_
   simp[upd]
end V
end Go.Proofs.YtnhbcdnmfafbiaaGreatDoor
set_option maxRecDepth 100000
namespace Go.Proofs.YtnhbcdnmfafbiaaGreatDoor
namespace V
open Go.Proofs
structure SmR (ns ns':List (List C)):Prop where
 g:Gn ns'
 l:ns'.length=ns.length
def cSa (ns:List (List C)) (p:Prop):Ct:=mkc rB bGr (fun _ ns'=>SmR ns ns') p
structure Bn where
 (n:ByteArray)
 (k o:Int)
def fBn:Pz (List C):=⟨Bn,fun x=>[.s x.n,.ui,I x.k,I x.o],fun l=>match l with
 |[.s n,.ui,.i .i64 k,.i .i64 o]=>some ⟨n,k,o⟩
 |_=>none,fun b x e=>by split at e <;> cases e;rfl⟩
theorem jYS {x y:Bn}(e:fBn.f x=fBn.f y):x=y:=by
 obtain⟨n,k,o⟩:=x;obtain⟨B,k',E⟩:=y;simp only[fBn,I,List.cons.injEq,C.i.injEq,C.s.injEq,true_and,and_true]at e;obtain⟨rfl,rfl,rfl⟩:=e;rfl
structure Wt where
 (ps ns bs:List (List C))
 (e:Int)
def fWt:Pz (List C):=⟨Wt,fun w=>[.r false 6 w.ps,.r true 3 w.ns,.r true 4 w.bs,I w.e,.ui],fun l=>match l with
 |[.r false 6 ps,.r true 3 ns,.r true 4 bs,.i .i64 e,.ui]=>some ⟨ps,ns,bs,e⟩
 |_=>none,fun b x e=>by split at e <;> cases e;rfl⟩
def pWt (w:Wt):Arg:=.bp (fWt.f w)
def bWt:Pz (List (List C)):=bS fWt
def hT (s:Bool):Hx:=⟨fun z=>cond (Nat.beq z 3) (eS fTn) (cond (Nat.beq z 4) (eS fBn) (cond (Nat.beq z 6) (eS fPt) (cond s (eS fSt) eI))),false,fun _=>none,false,false⟩
def hTy:Hy:=⟨hT false,[],[],[]⟩
structure TwB (w:Wt) (bb:Nat):Prop where
 g:Gn w.ns
 gl:w.ns.length+bb<=1000000
 r:Rw fBn Tt w.bs
 o:∀(j:Nat) (x:Bn),w.bs[j]? =some (fBn.f x)->x.o<j
 bl:w.bs.length+bb<=1000000
structure Tst (q:Nat) (w w':Wt):Prop where
 ps:w'.ps=w.ps
 m:w.bs.length<=w'.bs.length
 b:∀b,TwB w (b+q)->TwB w' b
theorem TwB.up {w:Wt}{b b':Nat}(h:TwB w b) (B:b'<=b):TwB w b':=⟨h.g,by have:=h.gl;omega,h.r,h.o,by have:=h.bl;omega⟩
theorem Tst.refl (w:Wt):Tst 0 w w:=⟨rfl,Nat.le_refl _,fun b h=>h⟩
theorem Tst.up {q q':Nat}{w w':Wt}(h:Tst q w w') (B:q<=q'):Tst q' w w':=⟨h.ps,h.m,fun b hb=>h.b b (hb.up (by omega))⟩
theorem Tst.trans {q q':Nat}{w w1 w2:Wt}(h:Tst q w w1) (B:Tst q' w1 w2):Tst (q+q') w w2:=⟨B.ps.trans h.ps,Nat.le_trans h.m B.m,fun b hb=>B.b b (h.b (b+q') (hb.up (by omega)))⟩
theorem Tst.ns {w:Wt}{ns:List (List C)}{q:Nat}(h:∀b,Gn w.ns->w.ns.length+(b+q)<=1000000->Gn ns/\ns.length<=w.ns.length+q):Tst q w {w with ns:=ns}:=⟨rfl,Nat.le_refl _,fun b hb=>by
 have B:=h b hb.g hb.gl;have:=hb.gl;have:=hb.bl
 exact⟨B.1,by dsimp only;omega,hb.r,hb.o,by dsimp only;omega⟩⟩
theorem Tst.er {q:Nat}{w w':Wt}(h:Tst q w w') (e:Int):Tst q w {w' with e:=e}:=⟨h.ps,h.m,fun b hb=>by
 have B:=h.b b hb
 exact⟨B.g,B.gl,B.r,B.o,B.bl⟩⟩
theorem SmR.st {w:Wt}{ns:List (List C)}(h:SmR w.ns ns):Tst 0 w {w with ns:=ns}:=Tst.ns fun b h1 h2=>⟨h.g,by rw[h.l];omega⟩
theorem GaR.gn {ns B:List (List C)}{k:Int}{s:List (List C)}{i:Int}(h:GaR ns k s i B) (E:Gn ns) (hs:Nk s) (hl:ns.length+1<=1000000):Gn B:=by
 rw[h.e];exact⟨E.r.app (Rw.one (S:=fTn) (x:=⟨k,s,ns.length⟩) hs),by rw[List.length_append];exact hl⟩
theorem GaR.st {w:Wt}{ns:List (List C)}{k:Int}{s:List (List C)}{i:Int}(h:GaR w.ns k s i ns) (hs:Nk s):Tst 1 w {w with ns:=ns}:=Tst.ns fun b h1 h2=>⟨h.gn h1 hs (by omega),by rw[h.e,List.length_append];exact Nat.le_refl _⟩
structure FaR (w:Wt) (e:Int) (w':Wt):Prop where
 e:w'={w with e:=e}
theorem jUX (w:Wt) (e:Int):Tot T (mkc r0 bWt (fun _ w'=>FaR w e w') True) 181 [pWt w,pI e,.pl (.c .ui)]:=vN hTy jJV Tryz.func181 (FaR w e {ps:=w.ps,ns:=w.ns,bs:=w.bs,e:=e}) (by kernel_rfl) ⟨rfl⟩
def jQs:Cts:=ctp 181 (kA (aC (aP fWt) <|aC aI <|aC aU aN) fun a=>mkc r0 bWt (fun _ w'=>FaR a.1 a.2.1 w') True) <|ctp 180 (kA (aC (aP (fO 3)) <|aC aI <|aC aI aN) fun a=>cSa a.1 (Gn a.1)) <|ctp 90 (kA (aC (aP (fO 3)) <|aC aI <|aC (aR 1) aN) fun a=>cGa a.1 a.2.1 a.2.2.1 (Gn a.1/\Nk a.2.2.1)) jNt
theorem jVA {ns:List (List C)}(h:Gn ns) (a b:Int):Tot T (cSa ns True) 180 [pGr ns,pI a,pI b]:=by
 obtain⟨⟨G,E⟩,B,hd⟩:=jW4 h a b;have B:MgR ns E:=B;exact⟨(_,E),⟨B.g,B.l⟩,jVB hd B.g⟩
theorem jMK:Good T jQs:=by
 unfold jQs;refine Good.add (Good.add (Good.add jNs ?_) ?_) ?_
 .rintro a ⟨h1,h2⟩;exact jYv _ h1 h2
 .rintro a h;exact jVA h _ _
 .rintro a -;exact jUX _ _
theorem jY4 {w:Wt}(h:TwB w 0) (a b:Int):Tot T (mkc r0 bWt (fun _ w'=>Tst 0 w w') True) 136 [pWt w,pI a,pI b,.pl (.c .ui)]:=vN hTy jMK Tryz.func136 (br (decide (w.e=0)) (Gn w.ns/\∀(x:Bool × List (List C)),SmR w.ns x.2->br (!x.1) (True/\∀(x_1:Unit × Wt),FaR {ps:=w.ps,ns:=x.2,bs:=w.bs,e:=w.e} 7 x_1.2->Tst 0 w x_1.2) (Tst 0 w {ps:=w.ps,ns:=x.2,bs:=w.bs,e:=w.e})) (false=false/\Tst 0 w w)) (by kernel_rfl) (by
 refine⟨fun _=>⟨h.g,fun⟨b,n1⟩ h1=>⟨fun _=>⟨trivial,fun⟨_,w'⟩ h2=>?_⟩,fun _=>?_⟩⟩,fun _=>⟨rfl,Tst.refl w⟩⟩
 .obtain⟨h2⟩:=h2
  dsimp only at h2
  subst h2;exact(SmR.st (w:=w) h1).er 7
 .exact SmR.st (w:=w) h1)
def hTa:Hy:=⟨hT false,[],[(3,[(7,0)])],[]⟩
theorem Nk.snoc {l:List (List C)}(h:Nk l) (a:Int) (hl:List.length l+1<=1000000):Nk (l ++[[I a]]):=⟨h.r.app (Rw.one (S:=fI) (x:=a) trivial),by rw[List.length_append];exact hl⟩
theorem jZ5 {ns l:List (List C)}(h:Gn ns) (hl:Nk l) (hn:l.length+1<=1000000) (a:Int):Tot T (mkc rI bGr (fun i ns'=>GaR ns 6 (l ++[[I a]]) i ns') True) 213 [pGr ns,.pl (.c (.r false 1 l)),pI a]:=vF hTa jMK Tryz.func213 (pln l/\0+l.length<=4000000000/\(List.replicate 0 [iz IntKind.i64] ++l).length+1<=4000000000/\pln (List.replicate 0 [iz IntKind.i64] ++l ++(List.replicate 1 [iz IntKind.i64]).set 0 [I a])/\(Gn ns/\Nk (List.replicate 0 [iz IntKind.i64] ++l ++(List.replicate 1 [iz IntKind.i64]).set 0 [I a]))/\∀(x:Int × List (List C)),GaR ns 6 (List.replicate 0 [iz IntKind.i64] ++l ++(List.replicate 1 [iz IntKind.i64]).set 0 [I a]) x.1 x.2->GaR ns 6 (l ++[[I a]]) x.1 x.2) (by kernel_rfl) (by
 have ns:=hl.snoc a hn
 exact⟨Rw.pln hl.r,by omega,by rw[List.replicate_zero,List.nil_append];omega,Rw.pln (p:=Tt) ns.r,⟨h,ns⟩,fun x hx=>hx⟩)
structure AnR (ns:List (List C)) (ns':List (List C)):Prop where
 s:∀w:Wt,w.ns=ns->Tst 1 w {w with ns:=ns'}
theorem jZ4 {ns l:List (List C)}(h:Gn ns) (hl:Nk l):Tot T (mkc rI bGr (fun i ns'=>AnR ns ns') True) 211 [pGr ns,.pl (.c (.r false 1 l))]:=vF hTy jMK Tryz.func211 (br (decide (↑l.length=(1:Int))) ((0:Int)<=0/\(∃(y:Int),l[0]? =some [I y])/\∀(x:Int),l[0]? =some [I x]->AnR ns ns) ((Gn ns/\Nk l)/\∀(x:Int × List (List C)),GaR ns 5 l x.1 x.2->AnR ns x.2)) (by kernel_rfl) (by
 refine⟨fun h1=>⟨by omega,hl.r.ati 0 (by omega) (by have:=dt h1;omega),fun x _=>⟨fun w e=>by subst e;exact(Tst.refl w).up (by omega)⟩⟩,fun h1=>⟨⟨h,hl⟩,fun⟨i,n1⟩ h1=>⟨fun w e=>by subst e;exact GaR.st h1 hl⟩⟩⟩)
def rIR:Pz (List Arg):=⟨Int × List (List C),fun x=>[pI x.1,.pl (.c (.r false 1 x.2))],fun l=>match l with
 |[.pl (.c (.i .i64 n)),.pl (.c (.r false z l))]=>if z=1 then some (n,l) else none
 |_=>none,fun b x e=>by
  split at e
  .split at e
   .rename_i h;cases e;rw[h];rfl
   .cases e
  .cases e⟩
structure BtR (w:Wt) (k:Nat) (sc:Int) (l:List (List C)) (w':Wt):Prop where
 s:Tst k w w'
 r:Nk l
 n:l.length=k
 i:sc<w'.bs.length
 e:w'.bs.length=w.bs.length+k
structure BtI (w:Wt) (x:PtS) (w':Wt) (m:List (List C)) (c i sc:Int) (l:List (List C)):Prop where
 q1:m=x.m
 q2:c=x.m.length
 q3:Ix x.m.length i
 q4:BtR w i.toNat sc l w'
def btT:Rl Av:=.cons 0 (tA 0) <| .cons 2 tI <| .cons 4 (tA 4) <| .cons 8 (tL 8) <| .cons 14 (tR 1) <| .cons 15 tI <| .cons 16 tI .nil
def btRt:Rl Rt:=.cons 0 (rX 0 fWt) <| .cons 4 (rX 1 fPt) <| .cons 8 (rX 2 (fO 1)) .nil
def btH (w:Wt) (x:PtS):Hy:=⟨hT true,[],[],[(3,.iv btT btRt (fun a=>BtI w x a.2.1 a.1.2.2.2.2.1 a.1.2.2.2.2.2.1 a.1.2.2.2.2.2.2.1 a.1.2.1 a.2.2.2.1) fun a=>ixM x.m.length a.1.2.2.2.2.2.2.1)]⟩
def cBt (w:Wt) (x:PtS) (p:Prop):Ct:=mkc rIR bWt (fun(i:Int × List (List C)) w'=>BtR w x.m.length i.1 i.2 w') p
theorem jZE {w:Wt}{x:PtS}{sc:Int}(hs:sc<w.bs.length) (h:TwB w x.m.length) (hx:jLP x):Tot T (cBt w x True) 210 [pWt w,.pl (.ag (fPt.f x)),pI sc]:=vR (btH w x) jMK [(7,0)] [false,false] Tryz.func210 (BtI w x w x.m ↑x.m.length 0 sc []/\∀(a:(Unit × Int × Unit × Unit × List (List C) × Int × Int × Unit) × Wt × PtS × List (List C) × Unit),BtI w x a.2.1 a.1.2.2.2.2.1 a.1.2.2.2.2.2.1 a.1.2.2.2.2.2.2.1 a.1.2.1 a.2.2.2.1->br (decide (a.1.2.2.2.2.2.2.1<a.1.2.2.2.2.2.1)) (0<=a.1.2.2.2.2.2.2.1/\(∃(y:ByteArray),a.1.2.2.2.2.1[Int.toNat a.1.2.2.2.2.2.2.1]? =some (fSt.f y))/\∀(x_1:ByteArray),a.1.2.2.2.2.1[Int.toNat a.1.2.2.2.2.2.2.1]? =some (fSt.f x_1)->(Gn a.2.1.ns/\Nk [])/\∀(x_2:Int × List (List C)),GaR a.2.1.ns 0 [] x_2.1 x_2.2->List.length a.2.2.2.1+1<=4000000000/\a.2.1.bs.length+1<=4000000000/\BtI w x {ps:=a.2.1.ps,ns:=x_2.2,bs:=a.2.1.bs ++(List.replicate 1 [se,.ui,iz IntKind.i64,iz IntKind.i64]).set 0 (ovl (ovl (ovl (ovl [se,.ui,iz IntKind.i64,iz IntKind.i64] 0 [C.s x_1]) 1 [.ui]) 2 [I x_2.1]) 3 [I a.1.2.1]),e:=a.2.1.e} a.1.2.2.2.2.1 a.1.2.2.2.2.2.1 (wr (a.1.2.2.2.2.2.2.1+1)) (wr (↑(a.2.1.bs ++(List.replicate 1 [se,.ui,iz IntKind.i64,iz IntKind.i64]).set 0 (ovl (ovl (ovl (ovl [se,.ui,iz IntKind.i64,iz IntKind.i64] 0 [C.s x_1]) 1 [.ui]) 2 [I x_2.1]) 3 [I a.1.2.1])).length-1)) (a.2.2.2.1 ++(List.replicate 1 [iz IntKind.i64]).set 0 [I x_2.1])/\ixM x.m.length (wr (a.1.2.2.2.2.2.2.1+1))<ixM x.m.length a.1.2.2.2.2.2.2.1) (pln a.2.2.2.1/\BtR w x.m.length a.1.2.1 a.2.2.2.1 a.2.1)) (by kernel_rfl) (by
 have hl:=hx.l;refine⟨⟨rfl,rfl,⟨by omega,by omega⟩,Tst.refl w,Nk.nil,rfl,hs,rfl⟩,fun⟨⟨_,sc,_,_,m,c,i,_⟩,w1,_,l,_⟩ ⟨q1,q2,q3,q4⟩=>?_⟩
 dsimp only at q1 q2 q3 q4 ⊢
 subst q1 q2;have lo:=q3.lo;have hi:=q3.hi;refine⟨fun hb=>?_,fun hb=>⟨Rw.pln q4.r.r,by rw[show x.m.length=i.toNat by have:=df hb;omega];exact q4⟩⟩;have J:=dt hb;have nx:=q3.nx (by omega) hb;have E:(wr (i+1)).toNat=i.toNat+1:=by unfold wr;rw[IntKind.wrap_i64];omega
 have b1:=q4.s.b (x.m.length-i.toNat) (by rw[show x.m.length-i.toNat+i.toNat=x.m.length by omega];exact h);have gl:=b1.gl;have bl:=b1.bl;have ll:=q4.n;have M:=q4.e;have V:=q4.i;refine⟨lo,hx.m.at (q3.lt hb),fun s _=>⟨⟨b1.g,Nk.nil⟩,fun⟨a,n1⟩ ha=>⟨by omega,by omega,⟨rfl,rfl,nx.1,?_⟩,nx.2⟩⟩⟩;rw[E];refine⟨⟨q4.s.ps,by show w.bs.length<=(w1.bs ++[fBn.f ⟨s,a,sc⟩]).length;rw[List.length_append];omega,fun b hb=>?_⟩,?_,?_,?_,?_⟩
 .have b2:=q4.s.b (b+1) (by rw[show b+1+i.toNat=b+(i.toNat+1) by omega];exact hb)
  have O:=b2.gl;have P:=b2.bl;have st:=GaR.st (w:=w1) ha Nk.nil;have b3:=st.b b b2;refine⟨b3.g,b3.gl,b2.r.app (Rw.one (S:=fBn) (x:=⟨s,a,sc⟩) trivial),fun j y hy=>?_,?_⟩
  .have hy:(w1.bs ++[fBn.f ⟨s,a,sc⟩])[j]? =some (fBn.f y):=hy
   by_cases G:j<w1.bs.length
   .rw[List.getElem?_append_left G]at hy
    exact b2.o j y hy
   .rw[List.getElem?_append_right (by omega)]at hy
    have B:j-w1.bs.length=0:=by
     rcases Nat.eq_zero_or_pos (j-w1.bs.length)with h|h
     .exact h
     .rw[List.getElem?_eq_none (by simp;omega)]at hy;cases hy
    rw[B]at hy;have:=jYS (Option.some.inj hy);subst this;show sc<(j:Int);omega
  .show(w1.bs ++[fBn.f ⟨s,a,sc⟩]).length+b<=_
   rw[List.length_append];simp;omega
 .exact q4.r.snoc a (by omega)
 .show(l ++[[I a]]).length=_;rw[List.length_append];simp;omega
 .show wr (((w1.bs ++[fBn.f ⟨s,a,sc⟩]).length:Int)-1)<((w1.bs ++[fBn.f ⟨s,a,sc⟩]).length:Int)
  rw[List.length_append];unfold wr;rw[IntKind.wrap_i64];simp only[List.length_singleton];omega
 .show(w1.bs ++[fBn.f ⟨s,a,sc⟩]).length=_
  rw[List.length_append];simp;omega)
structure NaI (w:Wt) (s:ByteArray) (w':Wt) (s':ByteArray) (sc:Int):Prop where
 q1:w'=w
 q2:s'=s
def tU:Rd Av:=ofP ⟨Unit,fun _=>.c .ui,fun v=>match v with
 | .c .ui=>some ()
 |_=>none,fun b x e=>by split at e <;> cases e;rfl⟩
def naT:Rl Av:=.cons 0 (tA 0) <| .cons 1 tS <| .cons 2 tU <| .cons 3 tI .nil
def naRt:Rl Rt:=.cons 0 (rX 0 fWt) .nil
def naH (w:Wt) (s:ByteArray):Hy:=⟨hT true,[],[],[(1,.iv naT naRt (fun a=>NaI w s a.2.1 a.1.2.1 a.1.2.2.2.1) fun a=>meM a.1.2.2.2.1)]⟩
theorem jWW {w:Wt}(s:ByteArray) (sc:Int) (h:TwB w 0):Tot T (mkc rI bWt (fun i w'=>Tst 0 w w') True) 209 [pWt w,.pl (.c (.s s)),.pl (.c .ui),pI sc]:=vF (naH w s) jMK Tryz.func209 (NaI w s w s sc/\∀(a:(Unit × ByteArray × Unit × Int × Unit) × Wt × Unit),NaI w s a.2.1 a.1.2.1 a.1.2.2.2.1->br (decide (a.1.2.2.2.1>=0)) (br (decide (a.1.2.2.2.1<↑a.2.1.bs.length)) (0<=a.1.2.2.2.1/\Int.toNat a.1.2.2.2.1<a.2.1.bs.length/\(∃(y:Bn),a.2.1.bs[Int.toNat a.1.2.2.2.1]? =some (fBn.f y))/\∀(x:Bn),a.2.1.bs[Int.toNat a.1.2.2.2.1]? =some (fBn.f x)->br (decide (x.n=a.1.2.1)) (Tst 0 w a.2.1) (NaI w s a.2.1 a.1.2.1 x.o/\meM x.o<meM a.1.2.2.2.1)) (True/\∀(x:Unit × Wt),FaR a.2.1 6 x.2->Tst 0 w x.2)) (false=false/\True/\∀(x:Unit × Wt),FaR a.2.1 6 x.2->Tst 0 w x.2)) (by kernel_rfl) (by
 refine⟨⟨rfl,rfl⟩,fun⟨⟨_,s',_,i,_⟩,w1,_⟩ ⟨q1,q2⟩=>?_⟩
 dsimp only at q1 q2 ⊢
 subst q1 q2
 have z:∀x:Unit × Wt,FaR w1 6 x.2->Tst 0 w1 x.2:=fun⟨_,w2⟩ ⟨e⟩=>by
  dsimp only at e
  subst e;exact(Tst.refl w1).er 6
 refine⟨fun h0=>⟨fun B=>?_,fun _=>⟨trivial,z⟩⟩,fun _=>⟨rfl,trivial,z⟩⟩;have h0:=dt h0;have B:=dt B;refine⟨h0,by omega,h.r.ati i h0 B,fun x hx=>⟨fun _=>Tst.refl w1,fun _=>⟨⟨rfl,rfl⟩,?_⟩⟩⟩;have:=h.o _ x hx;unfold meM
 omega)
end V
end Go.Proofs.YtnhbcdnmfafbiaaGreatDoor
set_option maxRecDepth 100000
namespace Go.Proofs.YtnhbcdnmfafbiaaGreatDoor
namespace V
open Go.Proofs
noncomputable def tq (ps:List (List C)) (n:Int):Nat:=if n<0 then 0 else pq' ps n
theorem jMk {ps:List (List C)}{n i:Int}(h:(jJI ps n).s.length<=i):tq ps (jJO ps n i)=0:=by
 rw[jSg h];rfl
theorem jMl (ps:List (List C)) (n:Int):tq ps n<=pq' ps n:=by
 unfold tq;split <;> omega
theorem t3 (ps:List (List C)) (n:Int):tq ps (jJO ps n 0)+tq ps (jJO ps n 1)+tq ps (jJO ps n 2)<=jJ3 ps n (jJI ps n).s.length:=by
 have k0:jJ3 ps n 1=jJ3 ps n 0+pq' ps (jJO ps n 0):=rfl;have G:jJ3 ps n 2=jJ3 ps n 1+pq' ps (jJO ps n 1):=rfl;have J:jJ3 ps n 3=jJ3 ps n 2+pq' ps (jJO ps n 2):=rfl;have z:jJ3 ps n 0=0:=rfl;have a0:=jMl ps (jJO ps n 0);have B:=jMl ps (jJO ps n 1);have a2:=jMl ps (jJO ps n 2)
 by_cases h0:(jJI ps n).s.length<=0
 .rw[jMk (i:=0) (by omega),jMk (i:=1) (by omega),jMk (i:=2) (by omega)];omega
 by_cases E:(jJI ps n).s.length<=1
 .rw[jMk (i:=1) (by omega),jMk (i:=2) (by omega)]
  have:=jK6 ps n (j:=1) (m:=(jJI ps n).s.length) (by omega);omega
 by_cases h2:(jJI ps n).s.length<=2
 .rw[jMk (i:=2) (by omega)]
  have:=jK6 ps n (j:=2) (m:=(jJI ps n).s.length) (by omega);omega
 have:=jK6 ps n (j:=3) (m:=(jJI ps n).s.length) (by omega);omega
def aBy:Pz Arg:=⟨ByteArray,fun s=>.pl (.c (.s s)),fun x=>match x with
 | .pl (.c (.s s))=>some s
 |_=>none,fun b x e=>by split at e <;> cases e;rfl⟩
structure RnT (ps:List (List C)):Prop where
 e:∀n,(jJI ps n).k=9->0<(jJI ps n).m.length
structure TkP (m:Nat) (w:Wt) (n sc:Int) (q:Nat):Prop where
 m:(n+1).toNat<m
 ps:Ps w.ps
 rn:RnT w.ps
 sc:sc<w.bs.length
 b:TwB w q
structure TpP (m:Nat) (w:Wt) (n sc:Int):Prop where
 n0:0<=n
 m:(n+1).toNat<=m
 ps:Ps w.ps
 rn:RnT w.ps
 sc:sc<w.bs.length
 b:TwB w (pq' w.ps n)
theorem TpP.kid {m:Nat}{w w':Wt}{n sc sc':Int}{q b:Nat}(h:TpP m w n sc) (s:Tst q w w') (hs:sc'<w'.bs.length) (i:Int) (B:q+b<=pq' w.ps n):TkP m w' (jJO w.ps n i) sc' b:=by
 have E:=jLn (ps:=w.ps) h.n0 i;have:=h.m;have:=h.n0;exact⟨by omega,by rw[s.ps];exact h.ps,by rw[s.ps];exact h.rn,hs,s.b _ (h.b.up (by omega))⟩
theorem TkP.sc' {m:Nat}{w w':Wt}{n sc:Int}{q b:Nat}(h:TkP m w n sc b) (s:Tst q w w'):sc<w'.bs.length:=by have:=h.sc;have:=s.m;omega
theorem TpP.sc' {m:Nat}{w w':Wt}{n sc:Int}{q:Nat}(h:TpP m w n sc) (s:Tst q w w'):sc<w'.bs.length:=by have:=h.sc;have:=s.m;omega
structure BtP (w:Wt) (x:PtS) (sc:Int):Prop where
 s:sc<w.bs.length
 b:TwB w x.m.length
 x:jLP x
structure AfP (ns l:List (List C)):Prop where
 g:Gn ns
 k:Nk l
 n:l.length+1<=1000000
def cAf (ns l:List (List C)) (a:Int) (p:Prop):Ct:=mkc rI bGr (fun i ns'=>GaR ns 6 (l ++[[I a]]) i ns') p
def cW (w:Wt) (q:Nat) (p:Prop):Ct:=mkc rI bWt (fun _ w'=>Tst q w w') p
def cW0 (w:Wt) (q:Nat) (p:Prop):Ct:=mkc r0 bWt (fun _ w'=>Tst q w w') p
noncomputable def ctY (m:Nat):Cts:=ctp 135 (kA (aC (aP fWt) <|aC aI <|aC aI aN) fun a=>cW a.1 (tq a.1.ps a.2.1) (TkP m a.1 a.2.1 a.2.2.1 (tq a.1.ps a.2.1))) <|
 ctp 136 (kA (aC (aP fWt) <|aC aI <|aC aI <|aC aU aN) fun a=>cW0 a.1 0 (TwB a.1 0)) <|
 ctp 213 (kA (aC (aP (fO 3)) <|aC (aR 1) <|aC aI aN) fun a=>cAf a.1 a.2.1 a.2.2.1 (AfP a.1 a.2.1)) <|
 ctp 211 (kA (aC (aP (fO 3)) <|aC (aR 1) aN) fun a=>mkc rI bGr (fun i ns'=>AnR a.1 ns') (Gn a.1/\Nk a.2.1)) <|
 ctp 210 (kA (aC (aP fWt) <|aC (aG fPt) <|aC aI aN) fun a=>cBt a.1 a.2.1 (BtP a.1 a.2.1 a.2.2.1)) <|
 ctp 209 (kA (aC (aP fWt) <|aC aBy <|aC aU <|aC aI aN) fun a=>cW a.1 0 (TwB a.1 0)) <|
 ctp 54 (kA (aC (aG fT6) <|aC aI <|aC aI aN) fun a=>cPk a.1 a.2.1 a.2.2.1 (Ps a.1)) <|
 ctp 40 (kP2 fun ps n=>cP ps n (Ps ps)) jQs
theorem jX7 {m:Nat}(ctY_ok:Good T (ctY m)) {w:Wt}{n sc:Int}(h:TkP m w n sc (tq w.ps n)) (x:Int):Tot T (cW0 w (tq w.ps n) True) 91 [pWt w,pI n,pI sc,pI x]:=vN hTy (ctY_ok) Tryz.func91 (TkP m w n sc (tq w.ps n)/\∀(x:Int × Wt),Tst (tq w.ps n) w x.2->Ps x.2.ps/\∀(x_1:PtS × Unit),PtX x.2.ps n x_1.1->TwB x.2 0/\∀(x_2:Unit × Wt),Tst 0 x.2 x_2.2->Tst (tq w.ps n) w x_2.2) (by kernel_rfl) (by
 refine⟨h,fun⟨i,w1⟩ s1=>?_⟩
 dsimp only at s1 ⊢
 exact⟨by rw[s1.ps];exact h.ps,fun _ _=>⟨s1.b 0 (h.b.up (by omega)),fun⟨_,w2⟩ s2=>s1.trans s2⟩⟩)
noncomputable def jNo (m:Nat):Cts:=ctp 91 (kA (aC (aP fWt) <|aC aI <|aC aI <|aC aI aN) fun a=>cW0 a.1 (tq a.1.ps a.2.1) (TkP m a.1 a.2.1 a.2.2.1 (tq a.1.ps a.2.1))) (ctY m)
theorem jX9 {m:Nat}(ctY1_ok:Good T (jNo m)) {w:Wt}{n sc:Int}(h:TkP m w n sc (1+tq w.ps n)) (x:Int):Tot T (cW0 w (1+tq w.ps n) True) 44 [pWt w,pI n,pI sc,pI x]:=vN hTy (ctY1_ok) Tryz.func44 ((Gn w.ns/\Nk [])/\∀(x_1:Int × List (List C)),GaR w.ns x [] x_1.1 x_1.2->TkP m {ps:=w.ps,ns:=x_1.2,bs:=w.bs,e:=w.e} n sc (tq w.ps n)/\∀(x:Unit × Wt),Tst (tq w.ps n) {ps:=w.ps,ns:=x_1.2,bs:=w.bs,e:=w.e} x.2->Tst (1+tq w.ps n) w x.2) (by kernel_rfl) (by
 refine⟨⟨h.b.g,Nk.nil⟩,fun⟨i,n1⟩ h1=>?_⟩;have B:=GaR.st (w:=w) h1 Nk.nil
 exact⟨⟨h.m,h.ps,h.rn,h.sc,B.b _ (h.b.up (by omega))⟩,fun⟨_,w2⟩ s2=>B.trans s2⟩)
theorem jYc {m:Nat}(ctY1_ok:Good T (jNo m)) {w:Wt}{n sc:Int}(h:TkP m w n sc (2+tq w.ps n)):Tot T (cW w (2+tq w.ps n) True) 217 [pWt w,pI n,pI sc]:=vF (⟨hT false,[17],[],[]⟩) (ctY1_ok) Tryz.func217 ((Gn w.ns/\Nk [])/\∀(x:Int × List (List C)),GaR w.ns 0 [] x.1 x.2->(Gn x.2/\Nk [[I x.1]])/\∀(x_1:Int × List (List C)),GaR x.2 4 [[I x.1]] x_1.1 x_1.2->TkP m {ps:=w.ps,ns:=x_1.2,bs:=w.bs,e:=w.e} n sc (tq w.ps n)/\∀(x:Unit × Wt),Tst (tq w.ps n) {ps:=w.ps,ns:=x_1.2,bs:=w.bs,e:=w.e} x.2->Tst (2+tq w.ps n) w x.2) (by kernel_rfl) (by
 refine⟨⟨h.b.g,Nk.nil⟩,fun⟨i,n1⟩ h1=>?_⟩;have E:=GaR.st (w:=w) h1 Nk.nil;have b1:=E.b (1+tq w.ps n) (h.b.up (by omega));have B:Nk [[I i]]:=Nk.nil.snoc i (by simp);refine⟨⟨b1.g,B⟩,fun⟨j,n2⟩ h2=>?_⟩;have s2:=E.trans (GaR.st (w:={w with ns:=n1}) h2 B)
 exact⟨⟨h.m,h.ps,h.rn,h.sc,s2.b _ (h.b.up (by omega))⟩,fun⟨_,w2⟩ s3=>s2.trans s3⟩)
theorem jYb {m:Nat}(ctY_ok:Good T (ctY m)) {w:Wt}{l:List (List C)}(h:TwB w 1) (hl:Nk l) (a:Int):Tot T (cW0 w 1 True) 212 [pWt w,.pl (.c (.r false 1 l)),pI a,.pl (.c .ui)]:=vN hTy (ctY_ok) Tryz.func212 (br (decide (↑l.length=(0:Int))) (Tst 1 w w) ((0:Int)<=1/\(1<=l.length/\l.length<=l.length/\0<l.length)/\AfP w.ns (List.take (l.length-1) (List.drop 1 l))/\∀(x:Int × List (List C)),GaR w.ns 6 (List.take (l.length-1) (List.drop 1 l) ++[[I a]]) x.1 x.2->(0:Int)<=0/\(∃(y:Int),l[0]? =some [I y])/\∀(x_1:Int),l[0]? =some [I x_1]->TwB {ps:=w.ps,ns:=x.2,bs:=w.bs,e:=w.e} 0/\∀(x_2:Unit × Wt),Tst 0 {ps:=w.ps,ns:=x.2,bs:=w.bs,e:=w.e} x_2.2->Tst 1 w x_2.2)) (by kernel_rfl) (by
 have ll:=hl.n;refine⟨fun _=>(Tst.refl w).up (by omega),fun h0=>?_⟩;have h0:=df h0
 have B:Nk (List.take (l.length-1) (List.drop 1 l)):=⟨fun e he=>hl.r e (List.mem_of_mem_drop (List.mem_of_mem_take he)),by rw[List.length_take,List.length_drop];omega⟩
 have kl:(List.take (l.length-1) (List.drop 1 l)).length+1<=1000000:=by rw[List.length_take,List.length_drop];omega
 refine⟨by omega,⟨by omega,by omega,by omega⟩,⟨h.g,B,kl⟩,fun⟨i,n1⟩ h1=>?_⟩;have E:=GaR.st (w:=w) h1 (B.snoc a kl)
 exact⟨by omega,hl.r.at (by omega),fun x _=>⟨E.b 0 (h.up (by omega)),fun⟨_,w2⟩ s2=>E.trans s2⟩⟩)
noncomputable def jKS (m:Nat):Cts:=ctp 44 (kA (aC (aP fWt) <|aC aI <|aC aI <|aC aI aN) fun a=>cW0 a.1 (1+tq a.1.ps a.2.1) (TkP m a.1 a.2.1 a.2.2.1 (1+tq a.1.ps a.2.1))) <|
 ctp 217 (kA (aC (aP fWt) <|aC aI <|aC aI aN) fun a=>cW a.1 (2+tq a.1.ps a.2.1) (TkP m a.1 a.2.1 a.2.2.1 (2+tq a.1.ps a.2.1))) <|
 ctp 212 (kA (aC (aP fWt) <|aC (aR 1) <|aC aI <|aC aU aN) fun a=>cW0 a.1 1 (TwB a.1 1/\Nk a.2.1)) (jNo m)
noncomputable def cWp (w:Wt) (n:Int) (p:Prop):Ct:=cW w (pq' w.ps n) p
theorem jZo {m:Nat}(ctY2_ok:Good T (jKS m)) {w:Wt}{n sc:Int}(h:TpP m w n sc):Tot T (cWp w n True) 177 [pWt w,pI n,pI sc]:=vF hTy (ctY2_ok) Tryz.func177 (Ps w.ps/\∀(x:Int × Unit),PkX w.ps n 0 x.1->TkP m w x.1 sc (1+tq w.ps x.1)/\∀(x_1:Unit × Wt),Tst (1+tq w.ps x.1) w x_1.2->Ps x_1.2.ps/\∀(x:Int × Unit),PkX x_1.2.ps n 1 x.1->TkP m x_1.2 x.1 sc (tq x_1.2.ps x.1)/\∀(x_2:Int × Wt),Tst (tq x_1.2.ps x.1) x_1.2 x_2.2->Ps x_2.2.ps/\∀(x:Int × Unit),PkX x_2.2.ps n 2 x.1->TkP m x_2.2 x.1 sc (tq x_2.2.ps x.1)/\∀(x_3:Unit × Wt),Tst (tq x_2.2.ps x.1) x_2.2 x_3.2->Tst (pq' w.ps n) w x_3.2) (by kernel_rfl) (by
 have e:=jKr (ps:=w.ps) h.n0;have B:=t3 w.ps n;refine⟨h.ps,fun⟨k,_⟩ ⟨hk,_⟩=>?_⟩
 dsimp only at hk ⊢
 subst hk;refine⟨h.kid (Tst.refl w) h.sc 0 (by omega),fun⟨_,w1⟩ s1=>?_⟩
 dsimp only at s1 ⊢
 rw[s1.ps];refine⟨h.ps,fun⟨k,_⟩ ⟨hk,_⟩=>?_⟩
 dsimp only at hk ⊢
 subst hk;refine⟨h.kid s1 (h.sc' s1) 1 (by omega),fun⟨_,w2⟩ s2=>?_⟩
 dsimp only at s2 ⊢
 have s2:=s1.trans s2;rw[s2.ps];refine⟨h.ps,fun⟨k,_⟩ ⟨hk,_⟩=>?_⟩
 dsimp only at hk ⊢
 subst hk
 exact⟨h.kid s2 (h.sc' s2) 2 (by omega),fun⟨_,w3⟩ s3=>(s2.trans s3).up (by omega)⟩)
theorem jYe {m:Nat}(ctY2_ok:Good T (jKS m)) {w:Wt}{n sc:Int}{q:Nat}(h:TpP m w n sc):Tot T (cW w (3+tq w.ps (jJO w.ps n 0)+tq w.ps (jJO w.ps n 1)) True) 216 [pWt w,pI n,pI sc]:=vF hTy (ctY2_ok) Tryz.func216 (Ps w.ps/\∀(x:Int × Unit),PkX w.ps n 0 x.1->TkP m w x.1 sc (2+tq w.ps x.1)/\∀(x_1:Int × Wt),Tst (2+tq w.ps x.1) w x_1.2->Ps x_1.2.ps/\∀(x:Int × Unit),PkX x_1.2.ps n 1 x.1->TkP m x_1.2 x.1 sc (1+tq x_1.2.ps x.1)/\∀(x_2:Unit × Wt),Tst (1+tq x_1.2.ps x.1) x_1.2 x_2.2->Tst (3+tq w.ps (jJO w.ps n 0)+tq w.ps (jJO w.ps n 1)) w x_2.2) (by kernel_rfl) (by
 have e:=jKr (ps:=w.ps) h.n0;have B:=t3 w.ps n;refine⟨h.ps,fun⟨k,_⟩ ⟨hk,_⟩=>?_⟩
 dsimp only at hk ⊢
 subst hk;refine⟨h.kid (Tst.refl w) h.sc 0 (by omega),fun⟨_,w1⟩ s1=>?_⟩
 dsimp only at s1 ⊢
 rw[s1.ps];refine⟨h.ps,fun⟨k,_⟩ ⟨hk,_⟩=>?_⟩
 dsimp only at hk ⊢
 subst hk
 exact⟨h.kid s1 (h.sc' s1) 1 (by omega),fun⟨_,w2⟩ s2=>(s1.trans s2).up (by omega)⟩)
theorem jYz {m:Nat}(ctY2_ok:Good T (jKS m)) {w:Wt}{n sc:Int}(h:TpP m w n sc):Tot T (cWp w n True) 176 [pWt w,pI n,pI sc]:=vF hTy (ctY2_ok) Tryz.func176 (Ps w.ps/\∀(x:PtS × Unit),PtX w.ps n x.1->BtP w x.1 sc/\∀(x_1:(Int × List (List C)) × Wt),BtR w x.1.m.length x_1.1.1 x_1.1.2 x_1.2->Ps x_1.2.ps/\∀(x:Int × Unit),PkX x_1.2.ps n 0 x.1->TkP m x_1.2 x.1 x_1.1.1 (tq x_1.2.ps x.1)/\∀(x_2:Int × Wt),Tst (tq x_1.2.ps x.1) x_1.2 x_2.2->AfP x_2.2.ns x_1.1.2/\∀(x:Int × List (List C)),GaR x_2.2.ns 6 (x_1.1.2 ++[[I x_2.1]]) x.1 x.2->Tst (pq' w.ps n) w {ps:=x_2.2.ps,ns:=x.2,bs:=x_2.2.bs,e:=x_2.2.e}) (by kernel_rfl) (by
 have e:=jKr (ps:=w.ps) h.n0;have E:=t3 w.ps n;refine⟨h.ps,fun⟨x,_⟩ ⟨ex,hx⟩=>?_⟩
 dsimp only at ex hx ⊢
 subst ex;refine⟨⟨h.sc,h.b.up (by omega),hx⟩,fun⟨⟨i,l⟩,w1⟩ r1=>?_⟩
 dsimp only at r1 ⊢
 have B:=r1.s;rw[B.ps];refine⟨h.ps,fun⟨k,_⟩ ⟨hk,_⟩=>?_⟩
 dsimp only at hk ⊢
 subst hk;refine⟨h.kid B r1.i 0 (by omega),fun⟨a,w2⟩ s2=>?_⟩
 dsimp only at s2 ⊢
 have s2:=B.trans s2;have b2:=s2.b 1 (h.b.up (by omega));have nl:=r1.n;have gl:=h.b.gl;refine⟨⟨b2.g,r1.r,by omega⟩,fun⟨j,n3⟩ h3=>?_⟩
 exact(s2.trans (GaR.st (w:=w2) h3 (r1.r.snoc a (by omega)))).up (by omega))
theorem jXt {m:Nat}(ctY2_ok:Good T (jKS m)) {w:Wt}{n sc:Int}(h:TpP m w n sc):Tot T (cWp w n True) 174 [pWt w,pI n,pI sc]:=vF hTy (ctY2_ok) Tryz.func174 (Ps w.ps/\∀(x:PtS × Unit),PtX w.ps n x.1->BtP w x.1 sc/\∀(x_1:(Int × List (List C)) × Wt),BtR w x.1.m.length x_1.1.1 x_1.1.2 x_1.2->(Gn x_1.2.ns/\Nk x_1.1.2)/\∀(x:Int × List (List C)),AnR x_1.2.ns x.2->Ps x_1.2.ps/\∀(x_2:Int × Unit),PkX x_1.2.ps n 0 x_2.1->TkP m {ps:=x_1.2.ps,ns:=x.2,bs:=x_1.2.bs,e:=x_1.2.e} x_2.1 sc (tq x_1.2.ps x_2.1)/\∀(x_3:Unit × Wt),Tst (tq x_1.2.ps x_2.1) {ps:=x_1.2.ps,ns:=x.2,bs:=x_1.2.bs,e:=x_1.2.e} x_3.2->Ps x_3.2.ps/\∀(x:Int × Unit),PkX x_3.2.ps n 1 x.1->TkP m x_3.2 x.1 x_1.1.1 (tq x_3.2.ps x.1)/\∀(x_4:Int × Wt),Tst (tq x_3.2.ps x.1) x_3.2 x_4.2->Tst (pq' w.ps n) w x_4.2) (by kernel_rfl) (by
 have e:=jKr (ps:=w.ps) h.n0;have J:=t3 w.ps n;refine⟨h.ps,fun⟨x,_⟩ ⟨ex,hx⟩=>?_⟩
 dsimp only at ex hx ⊢
 subst ex;refine⟨⟨h.sc,h.b.up (by omega),hx⟩,fun⟨⟨i,l⟩,w1⟩ r1=>?_⟩
 dsimp only at r1 ⊢
 have E:=r1.s;have b1:=E.b 1 (h.b.up (by omega));refine⟨⟨b1.g,r1.r⟩,fun⟨_,n2⟩ h2=>?_⟩;have s2:=E.trans (h2.s w1 rfl);rw[E.ps]at s2 ⊢;refine⟨h.ps,fun⟨k,_⟩ ⟨hk,_⟩=>?_⟩
 dsimp only at hk ⊢
 subst hk;refine⟨h.kid s2 (h.sc' s2) 0 (by omega),fun⟨_,w3⟩ B=>?_⟩
 dsimp only at B ⊢
 have G:=B.m;have B:=s2.trans B;rw[B.ps];refine⟨h.ps,fun⟨k,_⟩ ⟨hk,_⟩=>?_⟩
 dsimp only at hk ⊢
 subst hk;have M:=r1.i
 exact⟨h.kid B (by dsimp only at G;omega) 1 (by omega),fun⟨_,w4⟩ s4=>(B.trans s4).up (by omega)⟩)
theorem jXz {m:Nat}(ctY2_ok:Good T (jKS m)) {w:Wt}{n sc:Int}(h:TpP m w n sc) (hk:(jJI w.ps n).k=9):Tot T (cWp w n True) 175 [pWt w,pI n,pI sc]:=vF hTy (ctY2_ok) Tryz.func175 (Ps w.ps/\∀(x:PtS × Unit),PtX w.ps n x.1->BtP w x.1 sc/\∀(x_1:(Int × List (List C)) × Wt),BtR w x.1.m.length x_1.1.1 x_1.1.2 x_1.2->(Gn x_1.2.ns/\Nk [])/\∀(x:Int × List (List C)),GaR x_1.2.ns 0 [] x.1 x.2->(TwB {ps:=x_1.2.ps,ns:=x.2,bs:=x_1.2.bs,e:=x_1.2.e} 1/\Nk x_1.1.2)/\∀(x_2:Unit × Wt),Tst 1 {ps:=x_1.2.ps,ns:=x.2,bs:=x_1.2.bs,e:=x_1.2.e} x_2.2->Ps x_2.2.ps/\∀(x:Int × Unit),PkX x_2.2.ps n 0 x.1->TkP m x_2.2 x.1 x_1.1.1 (tq x_2.2.ps x.1)/\∀(x_3:Unit × Wt),Tst (tq x_2.2.ps x.1) x_2.2 x_3.2->Ps x_3.2.ps/\∀(x:Int × Unit),PkX x_3.2.ps n 1 x.1->TkP m x_3.2 x.1 (↑w.bs.length) (tq x_3.2.ps x.1)/\∀(x_4:Int × Wt),Tst (tq x_3.2.ps x.1) x_3.2 x_4.2->Tst (pq' w.ps n) w x_4.2) (by kernel_rfl) (by
 have e:=jKr (ps:=w.ps) h.n0;have O:=t3 w.ps n;refine⟨h.ps,fun⟨x,_⟩ ⟨ex,hx⟩=>?_⟩
 dsimp only at ex hx ⊢
 subst ex;have hm:=h.rn.e n hk;refine⟨⟨h.sc,h.b.up (by omega),hx⟩,fun⟨⟨i,l⟩,w1⟩ r1=>?_⟩
 dsimp only at r1 ⊢
 have J:=r1.s;have b1:=J.b 1 (h.b.up (by omega));refine⟨⟨b1.g,Nk.nil⟩,fun⟨_,n2⟩ h2=>?_⟩;have s2:=J.trans (GaR.st (w:=w1) h2 Nk.nil);refine⟨⟨s2.b 1 (h.b.up (by omega)),r1.r⟩,fun⟨_,w3⟩ B=>?_⟩
 dsimp only at B ⊢
 have G:=B.m;have B:=s2.trans B;have P:=r1.i;have M:=r1.e;rw[B.ps];refine⟨h.ps,fun⟨k,_⟩ ⟨hk,_⟩=>?_⟩
 dsimp only at hk ⊢
 subst hk;refine⟨h.kid B (by dsimp only at G;omega) 0 (by omega),fun⟨_,w4⟩ E=>?_⟩
 dsimp only at E ⊢
 have V:=E.m;have E:=B.trans E;rw[E.ps];refine⟨h.ps,fun⟨k,_⟩ ⟨hk,_⟩=>?_⟩
 dsimp only at hk ⊢
 subst hk
 exact⟨h.kid E (by dsimp only at G;omega) 1 (by omega),fun⟨_,w5⟩ s5=>(E.trans s5).up (by omega)⟩)
theorem jWY {m:Nat}(ctY2_ok:Good T (jKS m)) {w:Wt}{x:PtS}{sc:Int}(h:TwB w 0) (hx:jLP x):Tot T (cW w 0 True) 173 [pWt w,.pl (.ag (fPt.f x)),pI sc]:=vF (⟨hT true,[],[],[]⟩) (ctY2_ok) Tryz.func173 (br (decide (↑x.m.length=(0:Int))) (Tst 0 w w) ((0:Int)<=0/\(∃(y:ByteArray),x.m[0]? =some (fSt.f y))/\∀(x_1:ByteArray),x.m[0]? =some (fSt.f x_1)->TwB w 0/\∀(x:Int × Wt),Tst 0 w x.2->Tst 0 w x.2)) (by kernel_rfl) (by
 refine⟨fun _=>Tst.refl w,fun h0=>⟨by omega,hx.m.at (by have:=df h0;omega),fun y _=>⟨h,fun _ s=>s⟩⟩⟩)
structure jOH (w:Wt) (n sc a b:Int) (w':Wt) (n' sc' a' b' i:Int):Prop where
 q1:n'=n/\sc'=sc/\a'=a/\b'=b
 q2:Ix (jJI w.ps n).s.length i
 q3:Tst (i.toNat+jJ3 w.ps n i.toNat) w w'
def topT:Rl Av:=.cons 0 (tA 0) <| .cons 1 tI <| .cons 2 tI <| .cons 3 tI <| .cons 4 tI <| .cons 11 tI .nil
def jWZ:Rl Rt:=.cons 0 (rX 0 fWt) .nil
noncomputable def topH (w:Wt) (n sc a b:Int):Hy:=⟨hT false,[],[],[(2,.iv topT jWZ (fun q=>jOH w n sc a b q.2.1 q.1.2.1 q.1.2.2.1 q.1.2.2.2.1 q.1.2.2.2.2.1 q.1.2.2.2.2.2.1) fun q=>ixM (jJI w.ps n).s.length q.1.2.2.2.2.2.1)]⟩
theorem jWB {m:Nat}(ctY2_ok:Good T (jKS m)) {w:Wt}{n sc:Int}(h:TpP m w n sc) (a b:Int):Tot T (cWp w n True) 178 [pWt w,pI n,pI sc,pI a,pI b]:=vF (topH w n sc a b) (ctY2_ok) Tryz.func178 (jOH w n sc a b w n sc a b 0/\∀(a_1:(Unit × Int × Int × Int × Int × Int × Unit) × Wt × Unit),jOH w n sc a b a_1.2.1 a_1.1.2.1 a_1.1.2.2.1 a_1.1.2.2.2.1 a_1.1.2.2.2.2.1 a_1.1.2.2.2.2.2.1->Ps a_1.2.1.ps/\∀(x:PtS × Unit),PtX a_1.2.1.ps a_1.1.2.1 x.1->br (decide (a_1.1.2.2.2.2.2.1<↑x.1.s.length)) (Ps a_1.2.1.ps/\∀(x:Int × Unit),PkX a_1.2.1.ps a_1.1.2.1 a_1.1.2.2.2.2.2.1 x.1->TkP m a_1.2.1 x.1 a_1.1.2.2.1 (1+tq a_1.2.1.ps x.1)/\∀(x_1:Unit × Wt),Tst (1+tq a_1.2.1.ps x.1) a_1.2.1 x_1.2->jOH w n sc a b x_1.2 a_1.1.2.1 a_1.1.2.2.1 a_1.1.2.2.2.1 a_1.1.2.2.2.2.1 (wr (a_1.1.2.2.2.2.2.1+1))/\ixM (jJI w.ps n).s.length (wr (a_1.1.2.2.2.2.2.1+1))<ixM (jJI w.ps n).s.length a_1.1.2.2.2.2.2.1) ((Gn a_1.2.1.ns/\Nk [])/\∀(x:Int × List (List C)),GaR a_1.2.1.ns a_1.1.2.2.2.2.1 [] x.1 x.2->Tst (pq' w.ps n) w {ps:=a_1.2.1.ps,ns:=x.2,bs:=a_1.2.1.bs,e:=a_1.2.1.e})) (by kernel_rfl) (by
 have e:=jKr (ps:=w.ps) h.n0;have gl:=h.b.gl;refine⟨⟨⟨rfl,rfl,rfl,rfl⟩,⟨by omega,by omega⟩,Tst.refl w⟩,fun⟨⟨_,n',sc',a',b',i,_⟩,w1,_⟩ ⟨⟨q0,q1,qa,qb⟩,q2,q3⟩=>?_⟩
 dsimp only at q0 q1 qa qb q2 q3 ⊢
 subst q0 q1 qa qb;have lo:=q2.lo;have hi:=q2.hi;have pl:=jK6 w.ps n' (j:=i.toNat) (m:=(jJI w.ps n').s.length) (by omega);have b1:=q3.b 1 (h.b.up (b':=1+(i.toNat+jJ3 w.ps n' i.toNat)) (by omega));rw[q3.ps];refine⟨h.ps,fun⟨x,_⟩ ⟨ex,hx⟩=>?_⟩
 dsimp only at ex hx ⊢
 subst ex;refine⟨fun hb=>⟨h.ps,fun⟨k,_⟩ ⟨hk,_⟩=>?_⟩,fun hb=>⟨⟨b1.g,Nk.nil⟩,fun⟨_,n2⟩ h2=>?_⟩⟩
 .dsimp only at hk ⊢
  subst hk;have J:=dt hb;have nx:=q2.nx (by omega) hb;have E:(wr (i+1)).toNat=i.toNat+1:=by unfold wr;rw[IntKind.wrap_i64];omega
  have G:((i.toNat:Nat):Int)=i:=by omega
  have B:=jPg w.ps n' i.toNat;have M:=jK6 w.ps n' (j:=i.toNat+1) (m:=(jJI w.ps n').s.length) (by omega);rw[G]at B;have tl:=jMl w.ps (jJO w.ps n' i);refine⟨h.kid q3 (h.sc' q3) i (by omega),fun⟨_,w2⟩ s2=>⟨⟨⟨rfl,rfl,rfl,rfl⟩,nx.1,?_⟩,nx.2⟩⟩;rw[E,B];have s2:Tst (1+tq w.ps (jJO w.ps n' i)) w1 w2:=s2;exact(q3.trans s2).up (by omega)
 .have s:=q3.trans (GaR.st (w:=w1) h2 Nk.nil)
  rw[q3.ps]at s
  exact s.up (by omega))
structure AlI (w:Wt) (n sc:Int) (w':Wt) (n' sc':Int) (l:List (List C)) (i:Int):Prop where
 q1:n'=n/\sc'=sc
 q2:Ix (jJI w.ps n).s.length i
 q3:Tst (jJ3 w.ps n i.toNat) w w'
 q4:Nk l
 q5:l.length=i.toNat
def alT:Rl Av:=.cons 0 (tA 0) <| .cons 1 tI <| .cons 2 tI <| .cons 7 (tL 7) <| .cons 8 tI .nil
def alRt:Rl Rt:=.cons 0 (rX 0 fWt) <| .cons 7 (rX 2 (fO 1)) .nil
noncomputable def alH (w:Wt) (n sc:Int):Hy:=⟨hT false,[],[],[(3,.iv alT alRt (fun q=>AlI w n sc q.2.1 q.1.2.1 q.1.2.2.1 q.2.2.1 q.1.2.2.2.2.1) fun q=>ixM (jJI w.ps n).s.length q.1.2.2.2.2.1)]⟩
structure AlR (w:Wt) (n:Int) (l:List (List C)) (w':Wt):Prop where
 s:Tst (jJ3 w.ps n (jJI w.ps n).s.length) w w'
 r:Nk l
noncomputable def cAl (w:Wt) (n:Int) (p:Prop):Ct:=mkc (rR 1) bWt (fun l w'=>AlR w n l w') p
theorem jZX {m:Nat}(ctY2_ok:Good T (jKS m)) {w:Wt}{n sc:Int}(h:TpP m w n sc):Tot T (cAl w n True) 214 [pWt w,pI n,pI sc]:=vR (alH w n sc) (ctY2_ok) [(6,0)] [false] Tryz.func214 (AlI w n sc w n sc [] 0/\∀(a:(Unit × Int × Int × Unit × Int × Unit) × Wt × List (List C) × Unit),AlI w n sc a.2.1 a.1.2.1 a.1.2.2.1 a.2.2.1 a.1.2.2.2.2.1->Ps a.2.1.ps/\∀(x:PtS × Unit),PtX a.2.1.ps a.1.2.1 x.1->br (decide (a.1.2.2.2.2.1<↑x.1.s.length)) (Ps a.2.1.ps/\∀(x:Int × Unit),PkX a.2.1.ps a.1.2.1 a.1.2.2.2.2.1 x.1->TkP m a.2.1 x.1 a.1.2.2.1 (tq a.2.1.ps x.1)/\∀(x_1:Int × Wt),Tst (tq a.2.1.ps x.1) a.2.1 x_1.2->List.length a.2.2.1+1<=4000000000/\AlI w n sc x_1.2 a.1.2.1 a.1.2.2.1 (a.2.2.1 ++(List.replicate 1 [iz IntKind.i64]).set 0 [I x_1.1]) (wr (a.1.2.2.2.2.1+1))/\ixM (jJI w.ps n).s.length (wr (a.1.2.2.2.2.1+1))<ixM (jJI w.ps n).s.length a.1.2.2.2.2.1) (pln a.2.2.1/\AlR w n a.2.2.1 a.2.1)) (by kernel_rfl) (by
 have e:=jKr (ps:=w.ps) h.n0;have gl:=h.b.gl;refine⟨⟨⟨rfl,rfl⟩,⟨by omega,by omega⟩,Tst.refl w,Nk.nil,rfl⟩,fun⟨⟨_,n',sc',_,i,_⟩,w1,l,_⟩ ⟨⟨q0,q1⟩,q2,q3,q4,q5⟩=>?_⟩
 dsimp only at q0 q1 q2 q3 q4 q5 ⊢
 subst q0 q1;have lo:=q2.lo;have hi:=q2.hi;rw[q3.ps];refine⟨h.ps,fun⟨x,_⟩ ⟨ex,hx⟩=>?_⟩
 dsimp only at ex hx ⊢
 subst ex;refine⟨fun hb=>⟨h.ps,fun⟨k,_⟩ ⟨hk,_⟩=>?_⟩,fun hb=>⟨Rw.pln q4.r,by rw[show i.toNat=(jJI w.ps n').s.length by have:=df hb;omega]at q3;exact⟨q3,q4⟩⟩⟩
 dsimp only at hk ⊢
 subst hk;have J:=dt hb;have nx:=q2.nx (by omega) hb;have E:(wr (i+1)).toNat=i.toNat+1:=by unfold wr;rw[IntKind.wrap_i64];omega
 have G:((i.toNat:Nat):Int)=i:=by omega
 have B:=jPg w.ps n' i.toNat;have M:=jK6 w.ps n' (j:=i.toNat+1) (m:=(jJI w.ps n').s.length) (by omega);rw[G]at B;have tl:=jMl w.ps (jJO w.ps n' i);refine⟨h.kid q3 (h.sc' q3) i (by omega),fun⟨a,w2⟩ s2=>⟨by omega,⟨⟨rfl,rfl⟩,nx.1,?_,q4.snoc a (by omega),?_⟩,nx.2⟩⟩
 .rw[E,B]
  exact(q3.trans s2).up (by omega)
 .show(l ++[[I a]]).length=_;rw[List.length_append];simp;omega)
noncomputable def jOq (m:Nat):Cts:=ctp 214 (kA (aC (aP fWt) <|aC aI <|aC aI aN) fun a=>cAl a.1 a.2.1 (TpP m a.1 a.2.1 a.2.2.1)) <|
 ctp 216 (kA (aC (aP fWt) <|aC aI <|aC aI aN) fun a=>cW a.1 (3+tq a.1.ps (jJO a.1.ps a.2.1 0)+tq a.1.ps (jJO a.1.ps a.2.1 1)) (TpP m a.1 a.2.1 a.2.2.1)) <|
 ctp 178 (kA (aC (aP fWt) <|aC aI <|aC aI <|aC aI <|aC aI aN) fun a=>cWp a.1 a.2.1 (TpP m a.1 a.2.1 a.2.2.1)) (jKS m)
theorem jZr {m:Nat}(ctY3_ok:Good T (jOq m)) {w:Wt}{n sc:Int}(h:TpP m w n sc):Tot T (cWp w n True) 215 [pWt w,pI n,pI sc]:=vF hTy (ctY3_ok) Tryz.func215 (TpP m w n sc/\∀(x:List (List C) × Wt),AlR w n x.1 x.2->(Gn x.2.ns/\Nk [])/\∀(x_1:Int × List (List C)),GaR x.2.ns 0 [] x_1.1 x_1.2->Ps x.2.ps/\∀(x_2:PtS × Unit),PtX x.2.ps n x_2.1->(TwB {ps:=x.2.ps,ns:=x_1.2,bs:=x.2.bs,e:=x.2.e} 1/\Nk x.1)/\∀(x_3:Unit × Wt),Tst 1 {ps:=x.2.ps,ns:=x_1.2,bs:=x.2.bs,e:=x.2.e} x_3.2->Tst (pq' w.ps n) w x_3.2) (by kernel_rfl) (by
 have e:=jKr (ps:=w.ps) h.n0;refine⟨h,fun⟨l,w1⟩ ⟨s1,kl⟩=>?_⟩
 dsimp only at s1 kl ⊢
 have b1:=s1.b 1 (h.b.up (by omega));refine⟨⟨b1.g,Nk.nil⟩,fun⟨_,n2⟩ h2=>?_⟩;have s2:=s1.trans (GaR.st (w:=w1) h2 Nk.nil);rw[s1.ps]at s2 ⊢
 exact⟨h.ps,fun _ _=>⟨⟨s2.b 1 (h.b.up (by omega)),kl⟩,fun⟨_,w3⟩ s3=>(s2.trans s3).up (by omega)⟩⟩)
noncomputable def jOp (m:Nat):Cts:=ctp 215 (kA (aC (aP fWt) <|aC aI <|aC aI aN) fun a=>cWp a.1 a.2.1 (TpP m a.1 a.2.1 a.2.2.1)) (jOq m)
structure TzP (m:Nat) (w:Wt) (n sc:Int):Prop where
 m:(n+1).toNat<=m
 ps:Ps w.ps
 rn:RnT w.ps
 sc:sc<w.bs.length
 b:TwB w (tq w.ps n)
theorem TzP.up {m:Nat}{w:Wt}{n sc:Int}(h:TzP m w n sc) {k:Int}(hk:(jJI w.ps n).k=k) (h0:k≠0):TpP m w n sc:=by
 have n0:0<=n:=by
  by_cases hn:0<=n
  .exact hn
  .rw[jM0 (.inl (by omega))]at hk
   exact absurd hk.symm h0
 have:=h.b;unfold tq at this;rw[if_neg (by omega)]at this;exact⟨n0,h.m,h.ps,h.rn,h.sc,this⟩
noncomputable def cWq (w:Wt) (n:Int) (p:Prop):Ct:=cW w (tq w.ps n) p
def cpH:Hy:=⟨hT false,[84],[],[]⟩
theorem TpP.tq {m:Nat}{w:Wt}{n sc:Int}(h:TpP m w n sc):tq w.ps n=pq' w.ps n:=by
 have:=h.n0;unfold V.tq;rw[if_neg (by omega)]
theorem jZj {m:Nat}(B:Good T (jOp m)) {w:Wt}{n sc:Int}(h:TzP m w n sc):Tot T (cWq w n True) 179 [pWt w,pI n,pI sc]:=vF cpH (B) Tryz.func179 (Ps w.ps/\∀(x:PtS × Unit),PtX w.ps n x.1->br (decide (x.1.k=7)) (TpP m w n sc/\∀(x:List (List C) × Wt),AlR w n x.1 x.2->(Gn x.2.ns/\Nk x.1)/\∀(x_1:Int × List (List C)),GaR x.2.ns 5 x.1 x_1.1 x_1.2->Tst (tq w.ps n) w {ps:=x.2.ps,ns:=x_1.2,bs:=x.2.bs,e:=x.2.e}) (br (decide (x.1.k=19)) (TpP m w n sc/\∀(x:Int × Wt),Tst (pq' w.ps n) w x.2->Tst (tq w.ps n) w x.2) (br (decide (x.1.k=20)) (TpP m w n sc/\∀(x:Int × Wt),Tst (3+tq w.ps (jJO w.ps n 0)+tq w.ps (jJO w.ps n 1)) w x.2->Tst (tq w.ps n) w x.2) (br (decide (x.1.k=24)) (TpP m w n sc/\∀(x:Int × Wt),Tst (3+tq w.ps (jJO w.ps n 0)+tq w.ps (jJO w.ps n 1)) w x.2->Ps x.2.ps/\∀(x_1:Int × Unit),PkX x.2.ps n 2 x_1.1->TkP m x.2 x_1.1 sc (tq x.2.ps x_1.1)/\∀(x_2:Unit × Wt),Tst (tq x.2.ps x_1.1) x.2 x_2.2->(Gn x_2.2.ns/\Nk [])/\∀(x:Int × List (List C)),GaR x_2.2.ns 3 [] x.1 x.2->Tst (tq w.ps n) w {ps:=x_2.2.ps,ns:=x.2,bs:=x_2.2.bs,e:=x_2.2.e}) (br (decide (x.1.k=23)) (Ps w.ps/\∀(x:Int × Unit),PkX w.ps n 0 x.1->TkP m w x.1 sc (1+tq w.ps x.1)/\∀(x_1:Unit × Wt),Tst (1+tq w.ps x.1) w x_1.2->Ps x_1.2.ps/\∀(x:Int × Unit),PkX x_1.2.ps n 1 x.1->TkP m x_1.2 x.1 sc (tq x_1.2.ps x.1)/\∀(x_2:Int × Wt),Tst (tq x_1.2.ps x.1) x_1.2 x_2.2->(Gn x_2.2.ns/\Nk [[I x_2.1]])/\∀(x:Int × List (List C)),GaR x_2.2.ns 4 [[I x_2.1]] x.1 x.2->Tst (tq w.ps n) w {ps:=x_2.2.ps,ns:=x.2,bs:=x_2.2.bs,e:=x_2.2.e}) (br (decide (x.1.k=22)) (Ps w.ps/\∀(x:Int × Unit),PkX w.ps n 0 x.1->TkP m w x.1 sc (2+tq w.ps x.1)/\∀(x_1:Int × Wt),Tst (2+tq w.ps x.1) w x_1.2->(Gn x_1.2.ns/\Nk [])/\∀(x:Int × List (List C)),GaR x_1.2.ns 1 [] x.1 x.2->Tst (tq w.ps n) w {ps:=x_1.2.ps,ns:=x.2,bs:=x_1.2.bs,e:=x_1.2.e}) (br (decide (x.1.k=21)) (TpP m w n sc/\∀(x:Int × Wt),Tst (pq' w.ps n) w x.2->Tst (tq w.ps n) w x.2) (Tst (tq w.ps n) w w)))))))) (by kernel_rfl) (by
 refine⟨h.ps,fun⟨x,_⟩ ⟨ex,hx⟩=>?_⟩
 dsimp only at ex hx ⊢
 subst ex;have G:=t3 w.ps n;have up:∀{k:Int},decide ((jJI w.ps n).k=k)=true->k≠0->TpP m w n sc:=fun h1 h2=>h.up (dt h1) h2;have e:∀(p:TpP m w n sc),pq' w.ps n=5+2*(jJI w.ps n).m.length+(jJI w.ps n).s.length+exk (jJI w.ps n).k+jJ3 w.ps n (jJI w.ps n).s.length:=fun p=>jKr p.n0;refine⟨fun h1=>?_,fun _=>⟨fun h1=>?_,fun _=>⟨fun h1=>?_,fun _=>⟨fun h1=>?_,fun _=>⟨fun h1=>?_,fun _=>⟨fun h1=>?_,fun _=>⟨fun h1=>?_,fun _=>(Tst.refl w).up (by omega)⟩⟩⟩⟩⟩⟩⟩
 all_goals
  have p:=up h1 (by omega);have e:=e p;rw[p.tq]
 .refine⟨p,fun⟨l,w1⟩ ⟨s1,kl⟩=>?_⟩
  dsimp only at s1 kl ⊢
  have b1:=s1.b 1 (p.b.up (by omega));exact⟨⟨b1.g,kl⟩,fun⟨_,n2⟩ h2=>(s1.trans (GaR.st (w:=w1) h2 kl)).up (by omega)⟩
 .exact⟨p,fun _ s=>s⟩
 .exact⟨p,fun _ s=>s.up (by omega)⟩
 .refine⟨p,fun⟨_,w1⟩ s1=>?_⟩
  dsimp only at s1 ⊢
  rw[s1.ps];refine⟨p.ps,fun⟨k,_⟩ ⟨hk,_⟩=>?_⟩
  dsimp only at hk ⊢
  subst hk;refine⟨p.kid s1 (p.sc' s1) 2 (by omega),fun⟨_,w2⟩ s2=>?_⟩
  dsimp only at s2 ⊢
  have s2:=s1.trans s2;have b2:=s2.b 1 (p.b.up (by omega));exact⟨⟨b2.g,Nk.nil⟩,fun⟨_,n3⟩ h3=>(s2.trans (GaR.st (w:=w2) h3 Nk.nil)).up (by omega)⟩
 .refine⟨p.ps,fun⟨k,_⟩ ⟨hk,_⟩=>?_⟩
  dsimp only at hk ⊢
  subst hk;refine⟨p.kid (Tst.refl w) p.sc 0 (by omega),fun⟨_,w1⟩ s1=>?_⟩
  dsimp only at s1 ⊢
  rw[s1.ps];refine⟨p.ps,fun⟨k,_⟩ ⟨hk,_⟩=>?_⟩
  dsimp only at hk ⊢
  subst hk;refine⟨p.kid s1 (p.sc' s1) 1 (by omega),fun⟨a,w2⟩ s2=>?_⟩
  dsimp only at s2 ⊢
  have s2:=s1.trans s2;have b2:=s2.b 1 (p.b.up (by omega));have E:Nk [[I a]]:=Nk.nil.snoc a (by simp);exact⟨⟨b2.g,E⟩,fun⟨_,n3⟩ h3=>(s2.trans (GaR.st (w:=w2) h3 E)).up (by omega)⟩
 .refine⟨p.ps,fun⟨k,_⟩ ⟨hk,_⟩=>?_⟩
  dsimp only at hk ⊢
  subst hk;refine⟨p.kid (Tst.refl w) p.sc 0 (by omega),fun⟨_,w1⟩ s1=>?_⟩
  dsimp only at s1 ⊢
  have b1:=s1.b 1 (p.b.up (by omega));exact⟨⟨b1.g,Nk.nil⟩,fun⟨_,n2⟩ h2=>(s1.trans (GaR.st (w:=w1) h2 Nk.nil)).up (by omega)⟩
 .exact⟨p,fun _ s=>s⟩)
noncomputable def jQq (m:Nat):Cts:=ctp 179 (kA (aC (aP fWt) <|aC aI <|aC aI aN) fun a=>cWq a.1 a.2.1 (TzP m a.1 a.2.1 a.2.2.1)) <|
 ctp 177 (kA (aC (aP fWt) <|aC aI <|aC aI aN) fun a=>cWp a.1 a.2.1 (TpP m a.1 a.2.1 a.2.2.1)) <|
 ctp 176 (kA (aC (aP fWt) <|aC aI <|aC aI aN) fun a=>cWp a.1 a.2.1 (TpP m a.1 a.2.1 a.2.2.1)) <|
 ctp 175 (kA (aC (aP fWt) <|aC aI <|aC aI aN) fun a=>cWp a.1 a.2.1 (TpP m a.1 a.2.1 a.2.2.1/\(jJI a.1.ps a.2.1).k=9)) <|
 ctp 174 (kA (aC (aP fWt) <|aC aI <|aC aI aN) fun a=>cWp a.1 a.2.1 (TpP m a.1 a.2.1 a.2.2.1)) <|
 ctp 173 (kA (aC (aP fWt) <|aC (aG fPt) <|aC aI aN) fun a=>cW a.1 0 (TwB a.1 0/\jLP a.2.1)) (jOp m)
theorem jUK {m:Nat}(ctY5_ok:Good T (jQq m)) {w:Wt}{n sc:Int}(h:TzP m w n sc):Tot T (cWq w n True) 135 [pWt w,pI n,pI sc]:=vF hTy (ctY5_ok) Tryz.func135 (br (decide (w.e≠0)) (Tst (tq w.ps n) w w) (Ps w.ps/\∀(x:PtS × Unit),PtX w.ps n x.1->br (decide (x.1.k=1)) (true=true/\(Gn w.ns/\Nk [])/\∀(x:Int × List (List C)),GaR w.ns 1 [] x.1 x.2->Tst (tq w.ps n) w {ps:=w.ps,ns:=x.2,bs:=w.bs,e:=w.e}) (br (decide (x.1.k=4)) ((Gn w.ns/\Nk [])/\∀(x:Int × List (List C)),GaR w.ns 1 [] x.1 x.2->Tst (tq w.ps n) w {ps:=w.ps,ns:=x.2,bs:=w.bs,e:=w.e}) (br (decide (x.1.k=2)) (true=true/\(Gn w.ns/\Nk [])/\∀(x:Int × List (List C)),GaR w.ns 2 [] x.1 x.2->Tst (tq w.ps n) w {ps:=w.ps,ns:=x.2,bs:=w.bs,e:=w.e}) (br (decide (x.1.k=3)) ((Gn w.ns/\Nk [])/\∀(x:Int × List (List C)),GaR w.ns 2 [] x.1 x.2->Tst (tq w.ps n) w {ps:=w.ps,ns:=x.2,bs:=w.bs,e:=w.e}) (br (decide (x.1.k=6)) ((Gn w.ns/\Nk [])/\∀(x:Int × List (List C)),GaR w.ns 3 [] x.1 x.2->Tst (tq w.ps n) w {ps:=w.ps,ns:=x.2,bs:=w.bs,e:=w.e}) (br (decide (x.1.k=5)) ((TwB w 0/\jLP x.1)/\∀(x:Int × Wt),Tst 0 w x.2->Tst (tq w.ps n) w x.2) (br (decide (x.1.k=8)) (true=true/\TpP m w n sc/\∀(x:Int × Wt),Tst (pq' w.ps n) w x.2->Tst (tq w.ps n) w x.2) (br (decide (x.1.k=10)) (TpP m w n sc/\∀(x:Int × Wt),Tst (pq' w.ps n) w x.2->Tst (tq w.ps n) w x.2) (br (decide (x.1.k=9)) ((TpP m w n sc/\(jJI w.ps n).k=9)/\∀(x:Int × Wt),Tst (pq' w.ps n) w x.2->Tst (tq w.ps n) w x.2) (br (decide (x.1.k=12)) (TpP m w n sc/\∀(x:Int × Wt),Tst (pq' w.ps n) w x.2->Tst (tq w.ps n) w x.2) (br (decide (x.1.k=11)) (TpP m w n sc/\∀(x:Int × Wt),Tst (pq' w.ps n) w x.2->Tst (tq w.ps n) w x.2) (br (decide (x.1.k=18)) (Ps w.ps/\∀(x:Int × Unit),PkX w.ps n 0 x.1->TkP m w x.1 sc (1+tq w.ps x.1)/\∀(x_1:Unit × Wt),Tst (1+tq w.ps x.1) w x_1.2->Ps x_1.2.ps/\∀(x:Int × Unit),PkX x_1.2.ps n 1 x.1->TkP m x_1.2 x.1 sc (tq x_1.2.ps x.1)/\∀(x_2:Int × Wt),Tst (tq x_1.2.ps x.1) x_1.2 x_2.2->Tst (tq w.ps n) w x_2.2) (br (decide (x.1.k=13)) (true=true/\TpP m w n sc/\∀(x:Int × Wt),Tst (pq' w.ps n) w x.2->Tst (tq w.ps n) w x.2) (br (decide (x.1.k=15)) (true=true/\TpP m w n sc/\∀(x:Int × Wt),Tst (pq' w.ps n) w x.2->Tst (tq w.ps n) w x.2) (br (decide (x.1.k=16)) (TpP m w n sc/\∀(x:Int × Wt),Tst (pq' w.ps n) w x.2->Tst (tq w.ps n) w x.2) (br (decide (x.1.k=14)) (TpP m w n sc/\∀(x:Int × Wt),Tst (pq' w.ps n) w x.2->Tst (tq w.ps n) w x.2) (br (decide (x.1.k=17)) (TpP m w n sc/\∀(x:Int × Wt),Tst (pq' w.ps n) w x.2->Tst (tq w.ps n) w x.2) (TzP m w n sc/\∀(x:Int × Wt),Tst (tq w.ps n) w x.2->Tst (tq w.ps n) w x.2))))))))))))))))))) (by kernel_rfl) (by
 refine⟨fun _=>(Tst.refl w).up (by omega),fun _=>⟨h.ps,fun⟨x,_⟩ ⟨ex,hx⟩=>?_⟩⟩
 dsimp only at ex hx ⊢
 subst ex;have up:∀{k:Int},decide ((jJI w.ps n).k=k)=true->k≠0->TpP m w n sc:=fun h1 h2=>h.up (dt h1) h2
 have B:∀{k c:Int},decide ((jJI w.ps n).k=k)=true->k≠0->(Gn w.ns/\Nk [])/\∀(x:Int × List (List C)),GaR w.ns c [] x.1 x.2->Tst (tq w.ps n) w {ps:=w.ps,ns:=x.2,bs:=w.bs,e:=w.e}:=fun h1 h2=>by
  have p:=up h1 h2;have e:=jKr (ps:=w.ps) p.n0;rw[p.tq];exact⟨⟨h.b.g,Nk.nil⟩,fun⟨_,n2⟩ h2=>(GaR.st (w:=w) h2 Nk.nil).up (by omega)⟩
 have go:∀{k:Int},decide ((jJI w.ps n).k=k)=true->k≠0->TpP m w n sc/\∀x:Int × Wt,Tst (pq' w.ps n) w x.2->Tst (tq w.ps n) w x.2:=fun h1 h2=>by
  have p:=up h1 h2;rw[p.tq];exact⟨p,fun _ s=>s⟩
 refine⟨fun h1=>⟨rfl,B h1 (by omega)⟩,fun _=>⟨fun h1=>B h1 (by omega),fun _=>⟨fun h1=>⟨rfl,B h1 (by omega)⟩,fun _=>⟨fun h1=>B h1 (by omega),fun _=>⟨fun h1=>B h1 (by omega),fun _=>⟨fun _=>⟨⟨h.b.up (by omega),hx⟩,fun _ s=>s.up (by omega)⟩,fun _=>⟨fun h1=>⟨rfl,go h1 (by omega)⟩,fun _=>⟨fun h1=>go h1 (by omega),fun _=>⟨fun h1=>⟨⟨up h1 (by omega),dt h1⟩,(go h1 (by omega)).2⟩,fun _=>⟨fun h1=>go h1 (by omega),fun _=>⟨fun h1=>go h1 (by omega),fun _=>⟨fun h1=>?_,fun _=>⟨fun h1=>⟨rfl,go h1 (by omega)⟩,fun _=>⟨fun h1=>⟨rfl,go h1 (by omega)⟩,fun _=>⟨fun h1=>go h1 (by omega),fun _=>⟨fun h1=>go h1 (by omega),fun _=>⟨fun h1=>go h1 (by omega),fun _=>⟨h,fun _ s=>s⟩⟩⟩⟩⟩⟩⟩⟩⟩⟩⟩⟩⟩⟩⟩⟩⟩⟩;have p:=up h1 (by omega);have e:=jKr (ps:=w.ps) p.n0;have E:=t3 w.ps n;rw[p.tq];refine⟨p.ps,fun⟨k,_⟩ ⟨hk,_⟩=>?_⟩
 dsimp only at hk ⊢
 subst hk;refine⟨p.kid (Tst.refl w) p.sc 0 (by omega),fun⟨_,w1⟩ s1=>?_⟩
 dsimp only at s1 ⊢
 rw[s1.ps];refine⟨p.ps,fun⟨k,_⟩ ⟨hk,_⟩=>?_⟩
 dsimp only at hk ⊢
 subst hk
 exact⟨p.kid s1 (p.sc' s1) 1 (by omega),fun⟨_,w2⟩ s2=>(s1.trans s2).up (by omega)⟩)
end V
end Go.Proofs.YtnhbcdnmfafbiaaGreatDoor
set_option maxRecDepth 100000
namespace Go.Proofs.YtnhbcdnmfafbiaaGreatDoor
namespace V
open Go.Proofs
theorem ctY_ok (m:Nat) (B:∀(w:Wt) (n sc:Int),TkP m w n sc (tq w.ps n)->Tot T (cW w (tq w.ps n) True) 135 [pWt w,pI n,pI sc]):Good T (ctY m):=by
 unfold ctY;refine Good.add (Good.add (Good.add (Good.add (Good.add (Good.add (Good.add (jKu jMK (jS9 (c:=fun ps n=>cP ps n (Ps ps)) fun ps n hp=>jSe hp n)) ?_) ?_) ?_) ?_) ?_) ?_) ?_
 .rintro a h;exact jPl h _ _
 .rintro a h;exact jWW _ _ h
 .rintro a ⟨h1,h2,h3⟩;exact jZE h1 h2 h3
 .rintro a ⟨h1,h2⟩;exact jZ4 h1 h2
 .rintro a ⟨h1,h2,h3⟩;exact jZ5 h1 h2 h3 _
 .rintro a h;exact jY4 h _ _
 .rintro a h;exact B _ _ _ h
theorem ctY1_ok {m:Nat}(h:Good T (ctY m)):Good T (jNo m):=by
 unfold jNo;refine Good.add h ?_;rintro a B;exact jX7 h B _
theorem ctY2_ok {m:Nat}(h:Good T (ctY m)):Good T (jKS m):=by
 unfold jKS;refine Good.add (Good.add (Good.add (ctY1_ok h) ?_) ?_) ?_
 .rintro a ⟨h1,h2⟩;exact jYb h h1 h2 _
 .rintro a h1;exact jYc (ctY1_ok h) h1
 .rintro a h1;exact jX9 (ctY1_ok h) h1 _
theorem ctY3_ok {m:Nat}(h:Good T (ctY m)):Good T (jOq m):=by
 have h2:=ctY2_ok h;unfold jOq;refine Good.add (Good.add (Good.add h2 ?_) ?_) ?_
 .rintro a h1;exact jWB h2 h1 _ _
 .rintro a h1;exact jYe (q:=0) h2 h1
 .rintro a h1;exact jZX h2 h1
theorem ctY5_ok {m:Nat}(h:Good T (ctY m)):Good T (jQq m):=by
 have h2:=ctY2_ok h
 have E:Good T (jOp m):=by
  unfold jOp;refine Good.add (ctY3_ok h) ?_;rintro a B;exact jZr (ctY3_ok h) B
 unfold jQq;refine Good.add (Good.add (Good.add (Good.add (Good.add (Good.add E ?_) ?_) ?_) ?_) ?_) ?_
 .rintro a ⟨B,h3⟩;exact jWY h2 B h3
 .rintro a B;exact jXt h2 B
 .rintro a ⟨B,h3⟩;exact jXz h2 B h3
 .rintro a B;exact jYz h2 B
 .rintro a B;exact jZo h2 B
 .rintro a B;exact jZj E B
theorem jTQ:∀m,Good T (ctY m)
 |0=>ctY_ok 0 fun w n sc h=>absurd h.m (Nat.not_lt_zero _)
 |m+1=>ctY_ok (m+1) fun w n sc h=>jUK (ctY5_ok (jTQ m)) ⟨by have:=h.m;omega,h.ps,h.rn,h.sc,h.b⟩
noncomputable def jQp (m:Nat):Cts:=ctp 25 (kA (aC (aG fT6) aN) fun a=>mkc rI b0 (fun k _=>k=wr (a.1.length-1)) True) (jKS m)
theorem jQo (m:Nat):Good T (jQp m):=by
 unfold jQp;refine Good.add (ctY2_ok (jTQ m)) ?_;rintro a -;exact jSc _
def cWd (p:Prop):Ct:=mkc (rBo fWt) b0 (fun _ _=>True) p
theorem jUJ {m:Nat}(jQo:Good T (jQp m)) {ps:List (List C)}(h:Ps ps) (B:RnT ps) (hm:ps.length<m) (E:pq' ps (ps.length-1)<=100000):Tot T (cWd True) 26 [aPs ps]:=vR hTy (jQo) [] [true] Tryz.func26 (True/\∀(x:Int × Unit),x.1=wr (↑ps.length-1)->TkP m {ps:=ps,ns:=[],bs:=[],e:=0} x.1 ((-1)) (1+tq ps x.1)/\∀(x_1:Unit × Wt),Tst (1+tq ps x.1) {ps:=ps,ns:=[],bs:=[],e:=0} x_1.2->True) (by kernel_rfl) (by
 have pl:=h.n;have e:wr ((ps.length:Int)-1)=ps.length-1:=by unfold wr;rw[IntKind.wrap_i64];omega
 refine⟨trivial,fun⟨k,_⟩ ek=>?_⟩
 dsimp only at ek ⊢
 rw[e]at ek;subst ek;have tl:=jMl ps (ps.length-1)
 have g0:Gn []:=⟨Rw.nil,by simp⟩
 exact⟨⟨by omega,h,B,by simp,g0,by simp only[List.length_nil];omega,Rw.nil,(fun j x hx=>(by cases hx)),by simp only[List.length_nil];omega⟩,fun _ _=>trivial⟩)
structure TfP (ps:List (List C)):Prop where
 p:Ps ps
 r:RnT ps
 q:pq' ps (ps.length-1)<=100000
def ctY7:Cts:=ctp 26 (kA (aC (aG fT6) aN) fun a=>cWd (TfP a.1)) ct0
theorem jY9:Good T ctY7:=by
 unfold ctY7;refine Good.add jJV ?_;rintro a ⟨B,h2,E⟩;exact jUJ (jQo (List.length a.1+1)) B h2 (Nat.lt_succ_self _) E
def rEU:Pz (List Arg):=⟨Int,fun n=>[pI n,.pl (.c .ui)],fun l=>match l with
 |[.pl (.c (.i .i64 n)),.pl (.c .ui)]=>some n
 |_=>none,fun b x e=>by split at e <;> cases e;rfl⟩
theorem jZ8 {ps:List (List C)}(h:TfP ps):Tot T (mkc rEU b0 (fun _ _=>True) True) 13 [aPs ps]:=vR (⟨hT false,[],[(2,[(4,3000004)])],[]⟩) jY9 [] [false,false] Tryz.func13 (TfP ps/\∀(x:Wt × Unit),True->True) (by kernel_rfl) ⟨h,fun _ _=>trivial⟩
end V
end Go.Proofs.YtnhbcdnmfafbiaaGreatDoor
