import Derived.Test.YtlpmpelnhdoboaaGreatDoorS18
set_option linter.unusedVariables false
set_option linter.unusedSimpArgs false
set_option maxHeartbeats 20000000
namespace Go.Proofs.YtlpmpelnhdoboaaGreatDoor
namespace Dm
open Go.RowKit Tg
variable {w:World}
theorem jq0 {W:World}{o:Obj}(h:w.alloc o=W):Below w.heap.size w W/\W.heap[w.heap.size]? =some o:=by subst h;exact⟨jB.alloc jN _,jg w o⟩
theorem Tryz.kiI1:(Tryz.prog.info? 3).map (·.size)=some 1:=by kernel_rfl
theorem Tryz.kiM:(Tryz.prog.info? 144).map (fun i=>(i.zero,i.size,i.bytes))=some (some (.agg #[.string ⟨#[]⟩,.int .i64 0]),2,24):=by kernel_rfl
theorem Tryz.kuM:Tryz.prog.underlying 122=some (.slice 144):=by kernel_rfl
theorem Tryz.kiM2:(Tryz.prog.info? 144).map (·.size)=some 2:=by kernel_rfl
def nV' (l:List Nat):List Value:=l.map fun(n:Nat)=>Value.int .i64 (n:Int)
theorem jvH (l:List Nat):(nV' l).length=l.length:=by unfold nV';rw[Ua]
variable {κ:Kp}{xs:List Nat}
theorem KT.src {a:Option Addr}{c:Nat}(h:KT w κ (.slice a xs.length c) xs):0<xs.length->∃ad,a=some ad/\∀j v,(nV' xs)[j]? =some v->w.cell? (ad.add j)=some v:=by
 intro C
 rcases h with⟨_,rfl⟩|⟨g,off,cap,A,_,_,_,B⟩
 .simp at C
 .injection A with A _ _
  refine⟨_,A,fun j v hj=>?_⟩;unfold nV' at hj;rw[Yr]at hj
  cases hx :xs[j]? with
  |none=>rw[hx]at hj;cases hj
  |some y=>
   rw[hx]at hj;cases hj;rw[jmX];exact B j y hx
theorem KT.of_own {v:Value}{B:Nat}(h:w.ownsRow B 3 1 v xs.length (nV' xs)) (hk:∀b,v.ownBlock=some b->κ b=none):KT w κ v xs:=by
 rcases h.2 with⟨A,F⟩|⟨g,cap,H,A,_,E,C,_⟩
 .exact .inl ⟨A,Yh F⟩
 .refine .inr ⟨g,0,cap,A,C,hk g (by rw[A];rfl),jb E,fun j a hj=>?_⟩
  have:=h.cells (g:=g) (by rw[A];rfl) j (.int .i64 (a:Nat)) (by unfold nV';rw[Yr,hj];rfl);rw[addr_add]at this;rw[Kc];exact this
set_option maxRecDepth 100000 in
theorem jwJ {cb:Nat}{S:Inf.DS}{N b:Nat}{kv:Value}{z:Int}(h:DM w κ cb S N) (hN:N<90000) (hk:KT w κ kv xs) (hx:xs.length<=900) (hz:z=(b:Nat)) :
 Calls Tryz.prog 95 #[.pointer (some ⟨cb,0,none⟩),kv,.int .i64 z] w (NQ cb κ w (S.put 6 (xs ++[b])) (N+1) S.n):=by
 subst hz;obtain⟨i0,R,K,h3,Y⟩:=info_parts Tryz.kiI;obtain⟨ka,kc,h9⟩:=hk.slice;subst h9;obtain⟨M,hM,h8⟩:=jyT (P:=Tryz.prog) 56 3 i0 _ 1 8 Tryz.kuI R K h3 Y (by omega) xs.length (by omega);have HS:=jH hk.src;have HD:=jH h;have HM:=jH hM;have h4:=jH h.top;have hl:=h.lt
 obtain⟨n,hn⟩:∃n,xs.length=n:=⟨_,rfl⟩
 have F:=jH hn;rw[hn]at h8 HS HM hx ⊢;clear h hk hM hn
 go_enter Tryz.func95,Tryz.ntmps95
 go_upto_region 2 with fail
 generalize hW:World.alloc _ _=W;obtain⟨hB,hb⟩:=jq0 hW;have HB:=jH hB;have h2:=jH hb
 obtain⟨g,hg⟩:∃g,w.heap.size=g:=⟨_,rfl⟩
 have HG:=jH hg
 have h5:=jH (show 0<n->∃I,ka=some I/\∀j v,(nV' xs)[j]? =some v->W.cell? (I.add j)=some v from fun h0=>by
  obtain⟨I,e,hc⟩:=HS.o h0
  exact⟨I,e,fun j v hj=>(hB.cell (World.block_lt_of_cell? w _ (hc j v hj))).trans (hc j v hj)⟩)
 rw[hg]at h2 ⊢;clear hW hB hb hg
 go_upto_region 3 with(show wpList _ _ _ (Oper.mk (some 16) (Op.call {callee:=.builtin .copy,args:=#[.tmp 14,.tmp 15],argTypes:=#[56,56]}) _ _ _ _ ::_) _ _;go_loud (refine jwW rfl (.tmp 14) (.tmp 15) 56 56 rfl 3 Tryz.kuI 1 Tryz.kiI1 g n (n+1) kc ka rfl rfl M 3 h2.o (nV' xs) (by rw[jvH,F.o];omega) h5.o (by rw[jvH,F.o,HM.o];omega) (by intro v hv;unfold nV' at hv;rw[Uh]at hv;obtain⟨q,_,rfl⟩:=hv;rfl) w.heap.size w HB.o (by have:=HG.o;omega) ?_;intro w2 U O;have H:=jyl (B:=w.heap.size) U (by have:=HG.o;omega) (by omega) (by rw[jvH,F.o];omega) HM.o;have HO:=jH H;have E:=jH O;clear U O H))
 go_upto_region 4 with(at_builtin;go_loud (refine JO _ rfl (.tmp 17) (.tmp 19) 56 rfl w.heap.size 3 i0 _ 1 8 Tryz.kuI R K h3 Y rfl (by decide) (.slice (some ⟨g,0,none⟩) n (n+1)) n (nV' xs) rfl (HO.o.alloc _) ⟨w2.heap.size,0,none⟩ 1 1 [.int .i64 (b:Nat)] rfl rfl (Ja _ _ _ _ rfl) ?_ ?_ ?_ ?_ ?_;(intro u hu;simp at hu;subst hu;rfl);(unfold maxLen;omega);omega;(rw[Ya];exact Nat.le_succ_of_le E.o.size);intro v3 w3 A C k1;obtain⟨g3,k4,h7,_⟩:=jaf A (by omega);subst h7;have Z:=jH (show Below w.heap.size w w3 from(E.o.alloc E.o.size _).grown C (by rw[Ya];exact Nat.le_succ_of_le E.o.size) (fun k hk=>jh7 HO.o k hk));have h1:=jH A;clear A C k1))
 go_wp2_with (go_at_call 51;go_loud (refine(joU (k:=6) (xs:=xs ++[b]) (HD.o.on Z.o) hN ?_ (by omega) (by rw[Yg,F.o];show n+1<=_;omega) rfl).mono ?_;(refine KT.of_own (B:=w.heap.size) ?_ (fun p hp=>h4.o p (jh7 h1.o p hp));rw[Yg,F.o];have:=h1.o;unfold nV' at this ⊢;rw[Km];exact this);rintro _ w4 ⟨κ4,rfl,h6,k2⟩))
 go_returns;exact⟨κ4,rfl,(Fr.of Z.o).trans h6,k2⟩
theorem jwr (l:Inf.Env):(l.flatMap evC).length=l.length*2:=jbP (f:=evC) (c:=2) (fun _=>rfl) l
theorem jGO (l:Inf.Env):∀v ∈ l.flatMap evC,v.oneCell'=true:=by
 intro v A;rw[List.mem_flatMap]at A;obtain⟨e,_,he⟩:=A;unfold evC at he;simp at he;rcases he with rfl|rfl <;> rfl
variable {env:Inf.Env}
theorem EV.src {a:Option Addr}{c:Nat}(h:EV w κ (.slice a env.length c) env):0<env.length->∃ad,a=some ad/\∀j v,(env.flatMap evC)[j]? =some v->w.cell? (ad.add j)=some v:=by
 intro A;obtain⟨g,cap,e,_⟩:=jaf h.1 A;injection e with e1 _ _
 exact⟨_,e1,h.1.cells (g:=g) (by rw[e1];rfl)⟩
set_option maxRecDepth 100000 in
theorem jAX {ev:Value}{x:ByteArray}{t:Nat}(he:EV w κ ev env) (C:∀p,w.heap.size<=p->κ p=none) (hl:env.length<9500) :
 Calls Tryz.prog 111 #[ev,.string x,.int .i64 (t:Nat)] w fun e w'=>∃a c,e= .returned (.slice a (env.length+1) c)/\EV w' κ (.slice a (env.length+1) c) (env ++[(x,t)])/\Below w.heap.size w w':=by
 obtain⟨i0,Z,U,h7,h5⟩:=info_parts Tryz.kiM;obtain⟨ka,kc,k5⟩:=he.slice;subst k5;obtain⟨M,hM,k2⟩:=jyT (P:=Tryz.prog) 122 144 i0 _ 2 24 Tryz.kuM Z U h7 h5 (by omega) env.length (by omega);have HS:=jH he.src;have HM:=jH hM;have h8:=jH C
 obtain⟨n,hn⟩:∃n,env.length=n:=⟨_,rfl⟩
 have K:=jH hn;rw[hn]at k2 HS HM hl ⊢;clear he hM hn C
 go_enter Tryz.func111,Tryz.ntmps111
 go_upto_region 2 with fail
 generalize hW:World.alloc _ _=W;obtain⟨hB,hb⟩:=jq0 hW;have HB:=jH hB;have h6:=jH hb
 obtain⟨g,hg⟩:∃g,w.heap.size=g:=⟨_,rfl⟩
 have HG:=jH hg
 have h9:=jH (show 0<n->∃R,ka=some R/\∀j v,(env.flatMap evC)[j]? =some v->W.cell? (R.add j)=some v from fun h0=>by
  obtain⟨R,e,hc⟩:=HS.o h0
  exact⟨R,e,fun j v hj=>(hB.cell (World.block_lt_of_cell? w _ (hc j v hj))).trans (hc j v hj)⟩)
 rw[hg]at h6 ⊢;clear hW hB hb hg
 go_upto_region 3 with(show wpList _ _ _ (Oper.mk (some 16) (Op.call {callee:=.builtin .copy,args:=#[.tmp 14,.tmp 15],argTypes:=#[122,122]}) _ _ _ _ ::_) _ _;go_loud (refine jwW rfl (.tmp 14) (.tmp 15) 122 122 rfl 144 Tryz.kuM 2 Tryz.kiM2 g n (n+1) kc ka rfl rfl M 144 h6.o (env.flatMap evC) (by rw[jwr,K.o]) h9.o (by rw[jwr,K.o,HM.o];omega) (jGO env) w.heap.size w HB.o (by have:=HG.o;omega) ?_;intro w2 h4 Y;have O:=jyl (B:=w.heap.size) h4 (by have:=HG.o;omega) (by omega) (by rw[jwr,K.o]) HM.o;have HO:=jH O;have F:=jH Y;clear h4 Y O))
 go_wp2_with (at_builtin;go_loud (refine JO _ rfl (.tmp 17) (.tmp 21) 122 rfl w.heap.size 144 i0 _ 2 24 Tryz.kuM Z U h7 h5 rfl (by decide) (.slice (some ⟨g,0,none⟩) n (n+1)) n (env.flatMap evC) rfl (HO.o.alloc _) ⟨w2.heap.size,0,none⟩ 1 1 [.string x,.int .i64 (t:Nat)] rfl rfl (Ja _ _ _ _ rfl) ?_ ?_ ?_ ?_ ?_;(intro u hu;simp at hu;rcases hu with rfl|rfl <;> rfl);(unfold maxLen;omega);omega;(rw[Ya];exact Nat.le_succ_of_le F.o.size);intro v3 w3 A E k7;obtain⟨g3,H,k1,_⟩:=jaf A (by omega);subst k1;have k4:=jH (show Below w.heap.size w w3 from(F.o.alloc F.o.size _).grown E (by rw[Ya];exact Nat.le_succ_of_le F.o.size) (fun k hk=>jh7 HO.o k hk));have I:=jH A;clear A E k7))
 go_returns;refine⟨some ⟨g3,0,none⟩,H,rfl,⟨?_,fun p hp=>h8.o p (jh7 I.o p hp),by rw[Yg,K.o];show n+1<=_;omega⟩,k4.o⟩
 have h0:w3.ownsRow 0 144 2 (.slice (some ⟨g3,0,none⟩) (n+1) H) (n+1) (env.flatMap evC ++[.string x,.int .i64 (t:Nat)]):=⟨I.o.1,I.o.2.imp id fun⟨g,cap,cur,h1,h2,h3⟩=>⟨g,cap,cur,h1,Yi _,h3⟩⟩
 rw[Yg,K.o,List.flatMap_append,show[(x,t)].flatMap evC=[.string x,.int .i64 (t:Nat)] by simp[evC]];exact h0
theorem KT.one (a:Nat) (A:∀p,w.heap.size<=p->κ p=none):KT (w.alloc (.cells #[.int .i64 (a:Nat)] 3 (0,0))) κ (.slice (some ⟨w.heap.size,0,none⟩) 1 1) [a]:=by
 have B:=jg w (.cells #[.int .i64 (a:Nat)] 3 (0,0));refine .inr ⟨w.heap.size,0,1,rfl,jN,A _ jN,jb B,fun j c hj=>?_⟩
 cases j with
 |zero=>cases hj;exact ja B 0 rfl
 |succ j=>simp at hj
set_option maxRecDepth 100000 in
theorem jwt {cb:Nat}{g:G}{x:Inf.X}(hx:WD cb g x) (hg:g.pos=x.p) {S:Inf.DS}{N:Nat}{tv ev:Value}(h:DM w κ cb S N) (ht:TH w κ tv g) (he:EV w κ ev env) (hl:env.length+6*Inf.sz x<=9000) (hN:N+16*Inf.sz x<=80000) :
 Calls Tryz.prog 96 #[.pointer (some ⟨cb,0,none⟩),tv,ev] w (NQ cb κ w (Inf.dE x env S).2 (N+16*Inf.sz x+3) (Inf.dE x env S).1):=by
 obtain⟨i0,q6,k8,r4,q4⟩:=info_parts Tryz.kiD;have CW:=jH (hx w κ S N tv ev env h ht he hl hN);have HT:=jH ht;obtain⟨tb,tn,tk,h0,_⟩:=ht.blk;obtain⟨ea,ec,h6⟩:=he.slice;have k7:=jH h0;have HG:=jH hg;rw[h6]at CW ⊢;rw[h0]at CW ⊢;have hD:Inf.dE x env S=((Inf.dW x env S).2.n,(((Inf.dW x env S).2.put 0 []).put 4 [(Inf.dW x env S).2.n]).dem (Inf.dW x env S).1 ((Inf.dW x env S).2.n+1) x.p):=by rw[Inf.dE]
 rw[hD]
 obtain⟨C,k1⟩:∃C,(Inf.dW x env S).2=C:=⟨_,rfl⟩
 obtain⟨R,hR⟩:∃R,(Inf.dW x env S).1=R:=⟨_,rfl⟩
 rw[k1,hR]at CW ⊢;clear hx h ht he hl h0 h6 hg hD k1 hR
 go_enter Tryz.func96,Tryz.ntmps96
 go_upto_region 2 with(go_at_call 80;refine CW.o.mono ?_;rintro _ w1 ⟨κ1,rfl,h4,h9⟩;have r1:=jH h4;have k9:=jH h9;clear h4 h9)
 have CO:=jH (jsm k9.o (by omega))
 go_upto_region 3 with(go_at_call 93;refine CO.o.mono ?_;rintro _ w2 ⟨κ2,rfl,I,k2⟩;have q9:=jH I;have h2:=jH k2;clear I k2)
 have CP:=jH (joU (s:=⟨#[97,114,114,97,121]⟩) (k:=4) (h2.o.on (jB.alloc jN (.cells #[.int .i64 (C.n:Nat)] 3 (0,0)))) (by omega) (KT.one C.n h2.o.top) (by omega) (by simp) rfl)
 go_upto_region 4 with(go_at_call 51;refine CP.o.mono ?_;rintro _ w3 ⟨κ3,rfl,h5,h3⟩;have r5:=jH ((Fr.of (jB.alloc jN (.cells #[.int .i64 (C.n:Nat)] 3 (0,0)))).trans h5);have r2:=jH h3;clear h5 h3)
 rw[Inf.put_n];have H:=(r1.o.trans q9.o).trans r5.o;have Z:=(show TH w κ (.pointer (some ⟨tb,0,none⟩)) g from k7.o ▸ HT.o).keep H |>.pos;rw[HG.o]at Z;obtain⟨c2,r8⟩:=Z;obtain⟨t1,a1,n1,v1,A,q1,q2,q3⟩:=r2.o
 obtain⟨W,Y⟩:∃W,(C.put 0 []).put 4 [C.n]=W:=⟨_,rfl⟩
 rw[Y]at A q1 q2 q3 ⊢;obtain⟨aa,ac,E,k5⟩:=A.ar.any;clear k5
 obtain⟨m,hm⟩:∃m,W.D.length=m:=⟨_,rfl⟩
 rw[hm]at E q2;have c1:w3.cell? ⟨cb,1,none⟩=some (.slice aa m ac):=by rw[<-E];exact ja A.blk 1 rfl
 have r7:=A.lt;have hr:w3.ownsRow 0 82 4 (.slice aa m ac) m (W.D.flatMap dmC):=by have:=A.ar.own;rw[hm,E]at this;exact this
 have HR:=jH hr;have k4:=jH E;have HM:=jH hm;have HC:=jH A;have HF:=jH H;have r3:=jH A.blk;have HV:=jH (show ∀b,(Value.slice aa m ac).ownBlock=some b->b≠cb from fun b U e=>by rw[<-E]at U;have:=A.ar.tag b U;rw[e,A.tg]at this;cases this);have v0:m<90000:=by omega
 obtain⟨b,U⟩:∃b,C.n+1=b:=⟨_,rfl⟩
 rw[U];have q8:=jH Y;have q7:=jH U;clear A hr E hm H Y U
 go_region_law ((refine step_append_lies _ (by rfl) (.tmp 24) (.tmp 32) 54 (by rfl) 0 82 i0 _ 4 32 Tryz.kuD q6 k8 r4 q4 rfl (by decide) (.slice aa m ac) m (W.D.flatMap dmC) (by rfl) (HR.o.alloc _) ⟨w3.heap.size,0,none⟩ 1 1 [.int .i64 (R:Nat),.int .i64 (b:Nat),.int .i64 x.p,.int .i64 0] (by rfl) (by rfl) (Ja _ _ _ _ (by simp)) (by intro u hu;simp at hu;rcases hu with rfl|rfl|rfl|rfl <;> rfl) (by decide) (by unfold maxLen;omega) (by omega) (by simp) _ rfl ?_;intro g c w4 O B h1 r6;have F:=jtg r3.o HV.o B;have d3:=ja F 1 rfl;have e3:=je F 1;have r9:=jb F))
 all_goals
  rename_i K hK
  refine hK _ _ ?_;clear hK;clear K;have HZ:=jH (jsE (d:=⟨R,b,x.p,false⟩) (S':=Inf.DS.dem W R b x.p) HC.o HM.o ((jB.alloc jN _).drew) rfl rfl rfl O (by rw[k4.o];exact B) (by rw[k4.o];exact h1.imp id (fun e=>e)));clear O B h1 F d3 e3
  go_wp2_with fail
  go_returns;obtain⟨κ2,q5,I⟩:=HZ.o;have h8:=q8.o;subst h8;have h7:=q7.o;subst h7;refine⟨κ2,rfl,HF.o.trans I,_,_,_,_,q5,by exact Ym q1 (by omega),?_,by exact Ym q3 (by omega)⟩;show(((C.put 0 []).put 4 [C.n]).D ++[_]).length<=_;rw[Yg,HM.o];show m+1<=_;omega
end Dm
namespace Inf
theorem each_snoc (p:Int) (x:ByteArray):∀(l:List ByteArray) (S:DS),S.each (l ++[x]) p=(S.each l p).note x p
 |[],S=>rfl
 |y ::l,S=>by rw[Ka,DS.each,DS.each,each_snoc p x l]
theorem each_n (p:Int):∀(l:List ByteArray) (S:DS),(S.each l p).n=S.n+l.length
 |[],S=>rfl
 |y ::l,S=>by rw[DS.each,each_n p l,note_n,Yk];omega
theorem upFrom_snoc (x:ByteArray):∀(l:List ByteArray) (n:Nat) (env:Env),upFrom n (l ++[x]) env=upFrom n l env ++[(x,n+l.length)]
 |[],n,env=>rfl
 |y ::l,n,env=>by rw[Ka,upFrom,upFrom,upFrom_snoc x l,Yk,show n+1+l.length=n+(l.length+1) by omega]
theorem upFrom_len:∀(l:List ByteArray) (n:Nat) (env:Env),(upFrom n l env).length=env.length+l.length
 |[],n,env=>rfl
 |y ::l,n,env=>by rw[upFrom,upFrom_len l];simp;omega
theorem rng_snoc (n j:Nat):rng n (j+1)=rng n j ++[n+j]:=by unfold rng;rw[List.range_succ,Km];rfl
end Inf
namespace Dm
open Go.RowKit Tg
def SR (w:World) (κ:Kp) (v:Value) (xs:List ByteArray):Prop:=(xs=[]/\∃a cap,v= .slice a 0 cap)\/∃g off cap,v= .slice (some ⟨g,off,none⟩) xs.length cap/\κ g=none/\g<w.heap.size/\xs.length<=cap/\∀(i:Nat) (x:ByteArray),xs[i]? =some x->w.cell? ⟨g,off+i,none⟩=some (.string x)
variable {w:World}{κ:Kp}{v:Value}
theorem SR.slice {xs:List ByteArray}(h:SR w κ v xs):∃a c,v= .slice a xs.length c:=by
 rcases h with⟨rfl,a,c,h⟩|⟨g,off,cap,h,_⟩
 .exact⟨a,c,h⟩
 .exact⟨_,_,h⟩
theorem SR.at {w w':World}{κ E:Kp}{a:Option Addr}{c:Nat}{xs:List ByteArray}{S:Tag->Prop}(h:SR w κ (.slice a xs.length c) xs) (A:Fr S κ E w w') {i:Nat}{x:ByteArray}(hi:xs[i]? =some x):∃g off,a=some ⟨g,off,none⟩/\g<w'.heap.size/\w'.cell? ⟨g,off+i,none⟩=some (.string x):=by
 rcases h with⟨rfl,_⟩|⟨g,off,cap,B,H,C,I,F⟩
 .simp at hi
 .injection B with B _ _
  exact⟨g,off,B,Yj C A.low.size,(Ke (w:=w) (a:=⟨g,off+i,none⟩) (A.rest g C (fun t ht=>by rw[H]at ht;cases ht))).trans (F i x hi)⟩
def SE (n:Nat) (t:Tag):Prop:=SD t\/t=(5,n)
def un5 (n:Nat) (κ:Kp):Kp:=fun b=>if κ b=some (5,n) then none else κ b
variable {n:Nat}
theorem jsT {b:Nat}(h:κ b≠some (5,n)):un5 n κ b=κ b:=by unfold un5;rw[if_neg h]
theorem juB {b:Nat}(h:κ b=none):un5 n κ b=none:=by rw[jsT (by rw[h];intro e;cases e)];exact h
theorem TR.untag {t:Tag}{e:TypeId}{sz m:Nat}{xs:List Value}(n:Nat) (h:TR w κ t e sz v m xs) (ht:t≠(5,n)):TR w (un5 n κ) t e sz v m xs:=
 ⟨h.own,fun b hb=>by rw[jsT (by rw[h.tag b hb];intro e;exact ht (Uf e))];exact h.tag b hb⟩
theorem KT.untag {xs:List Nat}(n:Nat) (h:KT w κ v xs):KT w (un5 n κ) v xs:=by
 rcases h with h|⟨g,off,cap,C,E,B,A⟩
 .exact .inl h
 .exact .inr ⟨g,off,cap,C,E,juB B,A⟩
theorem EV.untag {env:Inf.Env}(n:Nat) (h:EV w κ v env):EV w (un5 n κ) v env:=⟨h.1,fun b hb=>juB (h.2.1 b hb),h.2.2⟩
theorem DC.untag {w:World}{κ:Kp}{cb:Nat}{tv C E A:Value}{B:List DT}{S:Inf.DS}(n:Nat) (h:DC w κ cb tv C E A B S):DC w (un5 n κ) cb tv C E A B S:=by
 refine⟨h.blk,TR.untag n h.tr (by intro e;cases e),TR.untag n h.ar (by intro e;cases e),TR.untag n h.nr (by intro e;cases e),fun i d hd=>⟨(h.kds i d hd).1.untag n,(h.kds i d hd).2⟩,h.ts,?_,fun p hp=>juB (h.top p hp),fun b m hb=>?_⟩
 .rw[jsT (by rw[h.tg];intro e;cases e)];exact h.tg
 .unfold un5 at hb
  split at hb
  .cases hb
  .exact h.n5 b m hb
theorem DM.untag {w:World}{κ:Kp}{cb:Nat}{S:Inf.DS}{N:Nat}(n:Nat) (h:DM w κ cb S N):DM w (un5 n κ) cb S N:=by
 obtain⟨tv,C,B,A,h,r⟩:=h;exact⟨tv,C,B,A,h.untag n,r⟩
theorem Fr.untag {w':World}{A:Kp}(h:Fr (SE n) κ A w w') (B:∀b,κ b≠some (5,n)):Fr SD κ (un5 n A) w w':=
 ⟨h.low,fun b hb=>by rw[jsT (by rw[h.old b hb];exact B b)];exact h.old b hb,fun b hb hs=>h.rest b hb (fun t ht e=>by
  rcases e with e|e
  .exact hs t ht e
  .exact B b (by rw[ht,e]))⟩
theorem KT.of_tr {xs:List Nat}(h:TR w κ (5,n) 3 1 v xs.length (nV' xs)):KT w (un5 n κ) v xs:=
 KT.of_own h.own (fun b hb=>by unfold un5;rw[if_pos (h.tag b hb)])
theorem DC.row {w':World}{B:Kp}{cb:Nat}{tv F H C:Value}{E:List DT}{S:Inf.DS}(h:DC w κ cb tv F H C E S) (A:Fr (· =(5,n)) κ B w w') (ht:∀b,w'.heap.size<=b->B b=κ b) (K:∀b,B b=κ b\/B b=some (5,n)) (I:n<w'.heap.size):DC w' B cb tv F H C E S:=by
 refine⟨(A.rest cb h.lt (fun t ht e=>by rw[h.tg]at ht;cases ht;cases e)).trans h.blk,h.tr.keep A (by intro e;cases e),h.ar.keep A (by intro e;cases e),h.nr.keep A (by intro e;cases e),fun i d hd=>⟨(h.kds i d hd).1.keep A,(h.kds i d hd).2⟩,h.ts,(A.old cb h.lt).trans h.tg,fun p hp=>(ht p hp).trans (h.top p (Ym A.low.size hp)),fun b m hb=>?_⟩;rcases K b with e|e
 .rw[e]at hb;exact Yj (h.n5 b m hb) A.low.size
 .rw[e]at hb;cases hb;exact I
theorem DM.row {w w':World}{κ A:Kp}{cb n N:Nat}{S:Inf.DS}(h:DM w κ cb S N) (B:Fr (· =(5,n)) κ A w w') (ht:∀b,w'.heap.size<=b->A b=κ b) (E:∀b,A b=κ b\/A b=some (5,n)) (C:n<w'.heap.size):DM w' A cb S N:=by
 obtain⟨tv,I,F,H,h,r⟩:=h;exact⟨tv,I,F,H,h.row B ht E C,r⟩
theorem ju5 {w2 w3:World}{j a:Nat}{A:Value}{l:List Nat}{O:Obj}(h:TR w κ (5,n) 3 1 v j (nV' l)) (E:w3.ownsRow 0 3 1 A (j+1) (nV' l ++[.int .i64 (a:Nat)])) (C:(w.alloc O).grownBy w3 v.ownBlock) (B:A.ownBlock=v.ownBlock\/A.ownBlock=some (w.alloc O).heap.size) :
 ∃κ',TR w3 κ' (5,n) 3 1 A (j+1) (nV' (l ++[a]))/\Fr (· =(5,n)) κ κ' w w3/\(∀b,w3.heap.size<=b->κ' b=κ b)/\∀b,κ' b=κ b\/κ' b=some (5,n):=by
 have H:Below w.heap.size w (w.alloc O):=jB.alloc jN _;have U:=h.keep (S:=fun _=>False) (.of H) id;obtain⟨κ',F,K,I,R⟩:=jxq U E C B;refine⟨κ',?_,(Fr.of H).trans K,I,R⟩;unfold nV' at F ⊢;rw[Km];exact F
theorem Tryz.kiN2:(Tryz.prog.info? 60).map (fun i=>(i.zero,i.size,i.bytes))=some (some (.agg #[.string ⟨#[]⟩,.int .i64 0,.int .i64 0]),3,32):=by kernel_rfl
theorem Tryz.kuN2:Tryz.prog.underlying 55=some (.slice 60):=by kernel_rfl
theorem jEu {w3:World}{cb g cap:Nat}{tv Y B U:Value}{W:List DT}{S S':Inf.DS}{d:ByteArray × Nat × Int}{C:World}(h:DC w κ cb tv Y B U W S) (Z:S.ns.length=n) (K:Below w.heap.size w C) (R:S'.ts=S.ts) (E:S'.D=S.D) (F:S'.ns=S.ns ++[d])
 (O:w3.ownsRow 0 60 3 (.slice (some ⟨g,0,none⟩) (n+1) cap) (n+1) (S.ns.flatMap ntC ++ntC d)) (I:C.grownBy w3 B.ownBlock) (H:B.ownBlock=some g\/g=C.heap.size) :
 ∃κ',DC (w3.setCell ⟨cb,2,none⟩ (.slice (some ⟨g,0,none⟩) (n+1) cap)) κ' cb tv Y (.slice (some ⟨g,0,none⟩) (n+1) cap) U W S'/\Fr SD κ κ' w (w3.setCell ⟨cb,2,none⟩ (.slice (some ⟨g,0,none⟩) (n+1) cap)):=by
 obtain⟨κ',p1,p2,p3,A,p5,p6⟩:=jtd (fi:=2) h.blk h.tg h.top h.nr (by decide) K O I H;refine⟨κ',⟨p1,h.tr.keep A (by rintro (e|e) <;> cases e),?_,?_,fun i d hd=>⟨(h.kds i d hd).1.keep A,(h.kds i d hd).2⟩,by rw[R];exact h.ts,p2,p5,fun b q hb=>?_⟩,A.mono (fun u e=>by rcases e with e|e;exact .inl e;exact .inr (.inr (.inr e)))⟩
 .rw[E];exact h.ar.keep A (by rintro (e|e) <;> cases e)
 .rw[F,Yg,List.flatMap_append,Z,show[d].flatMap ntC=ntC d by simp]
  exact p3
 .rcases p6 b with e|e
  .rw[e]at hb;exact Yj (h.n5 b q hb) A.low.size
  .rw[e]at hb;cases hb
end Dm
namespace Dm
open Go.RowKit Tg
structure EI (cb:Nat) (w:World) (κ:Kp) (S:Inf.DS) (N:Nat) (env:Inf.Env) (xs:List ByteArray) (p:Int) (j:Nat) (ev tv:Value) (wr:World) (κj:Kp):Prop where
 dm:DM wr κj cb (S.each (xs.take j) p) (N+j)
 ev:EV wr κj ev (Inf.upFrom S.n (xs.take j) env)
 tr:TR wr κj (5,w.heap.size) 3 1 tv j (nV' (Inf.rng S.n j))
 fr:Fr (SE w.heap.size) κ κj w wr
def EP (cb:Nat) (w:World) (κ:Kp) (S:Inf.DS) (N:Nat) (env:Inf.Env) (xs:List ByteArray) (p:Int) (e:Ending) (w':World):Prop:=
 ∃(κ':Kp) (a:Option Addr) (c:Nat) (ea:Option Addr) (ec:Nat),e= .returned (.tuple #[.slice a xs.length c,.slice ea (env.length+xs.length) ec])/\Fr SD κ κ' w w'/\DM w' κ' cb (S.each xs p) (N+xs.length)/\KT w' κ' (.slice a xs.length c) (Inf.rng S.n xs.length)/\EV w' κ' (.slice ea (env.length+xs.length) ec) (Inf.upFrom S.n xs env)
theorem jBP {l:List ByteArray}{j:Nat}{x:ByteArray}(h:l[j]? =some x):l.take (j+1)=l.take j ++[x]:=by
 have A:=(jG h).1;have e:=(jG h).2;rw[Uc A,e]
theorem rngN (n j:Nat):(Inf.rng n j).length=j:=by unfold Inf.rng;simp
variable {w:World}{κ:Kp}{cb N:Nat}{S:Inf.DS}{nv ev:Value}{env:Inf.Env}
set_option maxRecDepth 100000 in
theorem jsD {xs:List ByteArray}(h:DM w κ cb S N) (hx:SR w κ nv xs) (he:EV w κ ev env) (p:Int) (h6:xs.length<=6) (hN:N+6<=80000) (hl:env.length<=9000) :
 Calls Tryz.prog 94 #[.pointer (some ⟨cb,0,none⟩),nv,.int .i64 p,ev] w (EP cb w κ S N env xs p):=by
 obtain⟨i0,z9,x7,H3,z0⟩:=info_parts Tryz.kiI;obtain⟨j0,z3,z8,y9,H2⟩:=info_parts Tryz.kiN2;obtain⟨na,nc,y8⟩:=hx.slice;subst y8;obtain⟨ea,ec,y2⟩:=he.slice;subst y2;have h7:=jH hx;have HD:=jH h;have H8:=h.lt;have H0:=jH (show EI cb w κ S N env xs p 0 (.slice ea env.length ec) (.slice none 0 0) w κ from⟨h,he,TR.nil _ _ _ _ _,Fr.refl _ _ _⟩);have H1:=jH (show ∀b,κ b≠some (5,w.heap.size)from fun b hb=>by obtain⟨tv,av,nv,ds,hc,_⟩:=h;have:=hc.n5 b _ hb;omega);unfold EP
 obtain⟨n,hn⟩:∃n,xs.length=n:=⟨_,rfl⟩
 have HN:=jH hn;rw[hn]at h7 h6 ⊢;clear h hx he hn
 go_enter Tryz.func94,Tryz.ntmps94
 go_wp2_with fail
 go_loopg [3,10,11,12] n (fun gh s3 s10 s11 s12 (wr:World)=>∃(j:Nat) (κj:Kp),j<=n/\gh=n-j/\s11= .int .i64 (j:Nat)/\EI cb w κ S N env xs p j s3 s10 wr κj)
 case atStart=>exact⟨0,κ,by omega,rfl,rfl,H0.o⟩
 case round=>
  obtain⟨j,κj,hj,K1,rfl,O⟩:=hrel;obtain⟨v5,v7,h2⟩:=O.ev.slice;obtain⟨k8,q7,x3,x2⟩:=O.tr.any;clear x2;rw[Inf.upFrom_len]at h2;have h5:(xs.take j).length=j:=by rw[List.length_take,HN.o];omega
  rw[h5]at h2;subst h2;subst x3;have C:=jH O;have K9:=O.dm.lt;have K7:=O.fr.low.size;clear O
  by_cases y0:j<n
  .have u1:(j:Int)<(n:Int):=by omega
   obtain⟨x,q4⟩:∃x,xs[j]? =some x:=⟨_,Yb (by rw[HN.o];exact y0)⟩
   have B:=h7.o;rw[<-HN.o]at B;obtain⟨gn,off,y5,x9,x8⟩:=B.at C.o.fr q4;have r4:=jH q4;subst y5;have CO:=jH (jsm C.o.dm (by omega))
   obtain⟨F,h3⟩:∃F,S.each (xs.take j) p=F:=⟨_,rfl⟩
   have q6:F.n=S.n+j:=by rw[<-h3,Inf.each_n,h5]
   obtain⟨R,r6⟩:∃R,S.n+j=R:=⟨_,rfl⟩
   have v0:=jH r6;rw[h3,q6,r6]at CO;have z2:=jH h3;have v2:=jH q6;clear q4 h3 q6 B r6
   go_upto_region 6 with(go_at_call 93;refine CO.o.mono ?_;rintro _ w1 ⟨κ1,rfl,r2,y3⟩)
   obtain⟨q1,q2,q3,K4,E,b1,b2,b3⟩:=y3;obtain⟨va,vc,U,x0⟩:=E.nr.any;clear x0
   obtain⟨m,hm⟩:∃m,(F.put 0 []).ns.length=m:=⟨_,rfl⟩
   rw[hm]at U b3;have c1:w1.cell? ⟨cb,2,none⟩=some (.slice va m vc):=by rw[<-U];exact ja E.blk 2 rfl
   have K5:=E.lt;have B:=h7.o;rw[<-HN.o]at B;obtain⟨v3,k9,r1,H6,x5⟩:=B.at (C.o.fr.trans (r2.mono (fun t e=>.inl e))) r4.o;have e9:v3=gn/\k9=off:=by injection r1 with e;injection e with e1 Y _;exact⟨e1.symm,Y.symm⟩
   obtain⟨rfl,rfl⟩:=e9;have hr:w1.ownsRow 0 60 3 (.slice va m vc) m ((F.put 0 []).ns.flatMap ntC):=by have:=E.nr.own;rw[hm,U]at this;exact this
   have HR:=jH hr;have v4:=jH U;have HM:=jH hm;have HC:=jH E;have HF:=jH r2;have y7:=jH E.blk;have HV:=jH (show ∀b,(Value.slice va m vc).ownBlock=some b->b≠cb from fun b hb e=>by rw[<-U]at hb;have:=E.nr.tag b hb;rw[e,E.tg]at this;cases this);have K8:m<90000:=by omega
   clear E hr U hm r2 r1 B x8 x9
   go_region_law ((refine step_append_lies _ (by rfl) (.tmp 25) (.tmp 33) 55 (by rfl) 0 60 j0 _ 3 32 Tryz.kuN2 z3 z8 y9 H2 rfl (by decide) (.slice va m vc) m ((F.put 0 []).ns.flatMap ntC) (by rfl) (HR.o.alloc _) ⟨w1.heap.size,0,none⟩ 1 1 [.string x,.int .i64 (R:Nat),.int .i64 p] (by rfl) (by rfl) (Ja _ _ _ _ (by simp)) (by intro u hu;simp at hu;rcases hu with rfl|rfl|rfl <;> rfl) (by decide) (by unfold maxLen;omega) (by omega) (by simp) _ rfl ?_;intro g c w3 k2 H r7 x1;have W:=jtg y7.o HV.o H;have d3:=ja W 2 rfl;have e3:=je W 2;have z5:=jb W))
   all_goals
    first|(rename_i K A ;refine A _ _ ?_;clear A;clear K)|(rename_i K A u900;refine A _ _ ?_;clear A;clear K)|(rename_i K A u900 u901;refine A _ _ ?_;clear A;clear K)|(rename_i K A u900 u901 u902;refine A _ _ ?_;clear A;clear K)|(rename_i K A u900 u901 u902 u903;refine A _ _ ?_;clear A;clear K)|(rename_i K A u900 u901 u902 u903 u904;refine A _ _ ?_;clear A;clear K)|(rename_i K A u900 u901 u902 u903 u904 u905;refine A _ _ ?_;clear A;clear K)|(rename_i K A u900 u901 u902 u903 u904 u905 u906;refine A _ _ ?_;clear A;clear K)|(rename_i K A u900 u901 u902 u903 u904 u905 u906 u907;refine A _ _ ?_;clear A;clear K)
    obtain⟨κ4,h0,k5⟩:=jEu (d:=(x,R,p)) (S':=F.note x p) HC.o HM.o ((jB.alloc jN _).drew) rfl rfl (by have e1:=v2.o;have Y:=v0.o;show F.ns ++[(x,F.n,p)]=F.ns ++[(x,R,p)];rw[e1,Y]) k2 (by rw[v4.o];exact H) (by rw[v4.o];exact r7.imp id (fun e=>e));clear k2 H r7 W d3 e3 x1 z5
    obtain⟨W4,v1⟩:∃W4,w3.setCell ⟨cb,2,none⟩ (.slice (some ⟨g,0,none⟩) (m+1) c)=W4:=⟨_,rfl⟩
    rw[v1]at h0 k5 ⊢;have Z:Fr (SE w.heap.size) κj κ4 wr W4:=(HF.o.mono (fun t e=>.inl e)).trans (k5.mono (fun t e=>.inl e));have B:=h7.o;rw[<-HN.o]at B;obtain⟨y6,x6,q5,H5,H4⟩:=B.at (C.o.fr.trans Z) r4.o;have e9:y6=v3/\x6=k9:=by injection q5 with e;injection e with e1 Y _;exact⟨e1.symm,Y.symm⟩
    obtain⟨rfl,rfl⟩:=e9;have q9:EV W4 κ4 (.slice v5 (env.length+j) v7) (Inf.upFrom S.n (xs.take j) env):=C.o.ev.keep Z;have q8:TR W4 κ4 (5,w.heap.size) 3 1 (.slice k8 j q7) j (nV' (Inf.rng S.n j)):=(C.o.tr.keep HF.o (by rintro (e|e|e|e) <;> cases e)).keep k5 (by rintro (e|e|e|e) <;> cases e);have k7:(Inf.upFrom S.n (xs.take j) env).length=env.length+j:=by rw[Inf.upFrom_len,h5]
    have r9:=jH (jAX (x:=x) (t:=R) q9 h0.top (by rw[k7];omega));rw[k7]at r9;have y1:=jH q8;have z1:=jH h0;have z6:=jH Z;have H7:=h0.lt;have H9:=Z.low.size;have z7:=jH h5;clear h0 k5 Z B q5 q9 q8 k7 v1 c1 x5
    go_upto_region 8 with(go_at_call 111;refine r9.o.mono ?_;rintro _ w5 ⟨K0,K6,rfl,r8,k4⟩;have x4:=jH r8;have v8:=jH k4;have h1:=y1.o.keep (S:=fun _=>False) (.of k4) id;have v9:=jH h1;have y4:=jH h1.own;have K2:=k4.size;clear r8 k4 h1)
    go_wp2_with (at_builtin;refine JO _ rfl (.tmp 44) (.tmp 46) 56 rfl 0 3 i0 _ 1 8 Tryz.kuI z9 x7 H3 z0 rfl (by decide) (.slice k8 j q7) j (nV' (Inf.rng S.n j)) rfl (y4.o.alloc _) ⟨w5.heap.size,0,none⟩ 1 1 [.int .i64 (R:Nat)] rfl rfl (Ja _ _ _ _ rfl) ?_ ?_ ?_ ?_ ?_;(intro u hu;simp at hu;subst hu;rfl);(unfold maxLen;omega);omega;(exact Yi _);intro v6 w6 h4 I r5;have HP:=jH (ju5 (w2:=w6) v9.o h4 I r5);have z4:=I.size;clear h4 I r5)
    go_roundg (n-(j+1))
    case measure=>omega
    case rel=>
     obtain⟨κ6,t6,f6,p6,n6⟩:=HP.o;rw[Ya]at z4;have e1:=v2.o;have Y:=v0.o;have e3:=z2.o;have e4:=z7.o;have k1:=jBP r4.o
     have hM:DM W4 κ4 cb (S.each (xs.take (j+1)) p) (N+(j+1)):=by
      rw[k1,Inf.each_snoc,e3];refine⟨_,_,_,_,z1.o,?_,?_,?_⟩
      .rw[Inf.note_n];rw[Inf.put_n]at b1;omega
      .show F.D.length<=_;exact Ym b2 (by omega)
      .show(F.ns ++[_]).length<=_
       have h9:=HM.o;rw[Yg];show F.ns.length+1<=_;have h8:F.ns.length=m:=h9;have:=C.o.dm;rw[e3]at this;obtain⟨_,_,_,_,_,_,_,r3⟩:=this;omega
     refine⟨j+1,κ6,by omega,rfl,by go_num,⟨(hM.on v8.o).row f6 p6 n6 (by omega),?_,?_,?_⟩⟩
     .rw[k1,Inf.upFrom_snoc,e4,Y]
      exact x4.o.keep f6
     .rw[Inf.rng_snoc,Y];exact t6
     .exact((C.o.fr.trans z6.o).trans (Fr.of v8.o)).trans (f6.mono (fun t e=>.inr e))
  .have:j=n:=by omega
   subst this;have k1:xs.take j=xs:=Yw (by rw[HN.o];omega)
   go_wp2_with fail
   go_returns;have hd:=C.o.dm;have hv:=C.o.ev;have ht:=C.o.tr;rw[k1]at hd hv;refine⟨un5 w.heap.size κj,k8,q7,v5,v7,rfl,Fr.untag C.o.fr H1.o,hd.untag _,?_,hv.untag _⟩;exact KT.of_tr (by rw[rngN];exact ht)
inductive GN:Nat->ByteArray->ByteArray->List ByteArray->List ByteArray->Nat->Prop where
 |num {nm:ByteArray}{xs:List ByteArray}:GN 1 ⟨#[110,117,109]⟩ nm [] xs 0
 |tru {nm:ByteArray}{xs:List ByteArray}:GN 2 ⟨#[98,111,111,108]⟩ nm [] xs 0
 |fls {nm:ByteArray}{xs:List ByteArray}:GN 3 ⟨#[98,111,111,108]⟩ nm [] xs 0
 |read {nm:ByteArray}{xs:List ByteArray}:GN 4 ⟨#[114,101,97,100]⟩ nm [] xs 0
 |var {x:ByteArray}:GN 5 ⟨#[118,97,114]⟩ x [] [x] 0
 |unit {nm:ByteArray}{xs:List ByteArray}:GN 6 ⟨#[117,110,105,116]⟩ nm [] xs 0
 |tup {nm:ByteArray}{xs:List ByteArray}{m:Nat}(h:2<=m/\m<=6):GN 7 ⟨#[116,117,112,108,101]⟩ nm [] xs m
 |let' {x:ByteArray}:GN 8 ⟨#[108,101,116]⟩ x [] [x] 2
 |rc {f:ByteArray}{xs:List ByteArray}(h:1<=xs.length/\xs.length<=5):GN 9 ⟨#[114,101,99]⟩ f xs (f ::xs) 2
 |pair {nm:ByteArray}{xs:List ByteArray}(h:xs.length<=6):GN 10 ⟨#[112,97,105,114]⟩ nm xs xs 2
 |iff {nm:ByteArray}{xs:List ByteArray}:GN 11 ⟨#[105,102]⟩ nm [] xs 3
 |fn {nm:ByteArray}{xs:List ByteArray}(h:xs.length<=6):GN 12 ⟨#[102,117,110]⟩ nm xs xs 1
 |neg {nm:ByteArray}{xs:List ByteArray}:GN 13 ⟨#[110,101,103]⟩ nm [] xs 1
 |not {nm:ByteArray}{xs:List ByteArray}:GN 14 ⟨#[110,111,116]⟩ nm [] xs 1
 |op {k:Nat}{nm:ByteArray}{xs:List ByteArray}(h:((k=15\/k=16)/\jpi nm=false)\/(k=17/\jpi nm=true)):GN k ⟨#[111,112]⟩ nm [] xs 2
 |seq {nm:ByteArray}{xs:List ByteArray}:GN 18 ⟨#[115,101,113]⟩ nm [] xs 2
 |call {nm:ByteArray}{xs:List ByteArray}{m:Nat}(h:2<=m/\m<=6):GN 19 ⟨#[99,97,108,108]⟩ nm [] xs m
 |get {nm:ByteArray}{xs:List ByteArray}:GN 20 ⟨#[103,101,116]⟩ nm [] xs 2
 |prt {nm:ByteArray}{xs:List ByteArray}:GN 21 ⟨#[112,114,105,110,116]⟩ nm [] xs 1
 |len {nm:ByteArray}{xs:List ByteArray}:GN 22 ⟨#[108,101,110]⟩ nm [] xs 1
 |arr {nm:ByteArray}{xs:List ByteArray}:GN 23 ⟨#[97,114,114,97,121]⟩ nm [] xs 2
 |put {nm:ByteArray}{xs:List ByteArray}:GN 24 ⟨#[112,117,116]⟩ nm [] xs 3
mutual
inductive GX:G->Inf.X->Prop
 |nd {k:Nat}{fm nm:ByteArray}{p n:Int}{ns xs:List ByteArray}{gs:List G}{l:List Inf.X}(h:GN k fm nm ns xs gs.length) (hl:GXs gs l):GX (.nd fm p n nm ns gs) (.nd k p xs l)
inductive GXs:List G->List Inf.X->Prop
 |nil:GXs [] []
 |cons {g:G}{x:Inf.X}{gs:List G}{l:List Inf.X}(h:GX g x) (hl:GXs gs l):GXs (g ::gs) (x ::l)
end
theorem GX.pos {g:G}{x:Inf.X}(h:GX g x):g.pos=x.p:=by cases h;rfl
def KV (w:World) (κ:Kp) (kv:Value) (gs:List G):Prop:=∃ka kc,kv= .slice ka gs.length kc/\gs.length<=kc/\(0<gs.length->∃gb off,ka=some ⟨gb,off,none⟩/\κ gb=none/\gb<w.heap.size/\∀(j:Nat) (g:G),gs[j]? =some g->∃kb,w.cell? ⟨gb,off+j,none⟩=some (.pointer (some ⟨kb,0,none⟩))/\TH w κ (.pointer (some ⟨kb,0,none⟩)) g)
structure ND (w:World) (κ:Kp) (tb:Nat) (fm:ByteArray) (p n:Int) (nm:ByteArray) (nv kv:Value) (ns:List ByteArray) (gs:List G):Prop where
 blk:w.heap[tb]? =some (.cells #[.string fm,.int .i64 p,.int .i64 n,.string nm,nv,kv] 117 (0,0))
 tag:κ tb=none
 sr:SR w κ nv ns
 kv:KV w κ kv gs
theorem jzo {w:World}{B n:Nat}:∀{ps:List Value}{gs:List G},HTs w B n ps gs->ps.length=gs.length/\∀(j:Nat) (g:G),gs[j]? =some g->∃v,ps[j]? =some v/\HT w B n v g
 |_,_,.nil=>⟨rfl,fun j g h=>by simp at h⟩
 |_,_,.cons h hs=>by
  obtain⟨A,C⟩:=jzo hs;refine⟨by simp[A],fun j g hj=>?_⟩
  cases j with
  |zero=>cases hj;exact⟨_,rfl,h⟩
  |succ j=>exact C j g hj
variable {v:Value}{fm nm:ByteArray}{p n:Int}{ns:List ByteArray}{gs:List G}
theorem TH.node (h:TH w κ v (.nd fm p n nm ns gs)):∃tb nv kv,v= .pointer (some ⟨tb,0,none⟩)/\ND w κ tb fm p n nm nv kv ns gs:=by
 obtain⟨B,I,K,R,A⟩:=h
 cases K with
 |@nd b form name pos num names kids nv kv ps hB hn hb hr hk hs=>
  obtain⟨E,H⟩:=jzo hs;refine⟨b,nv,kv,rfl,hb,A b hB hn,?_,?_⟩
  .rcases hr with⟨h4,a,c,h5⟩|⟨g,off,cap,h4,h5,h6,h7,h8⟩
   .exact .inl ⟨List.map_eq_nil_iff.1 h4,a,c,h5⟩
   .rw[Ua]at h4 h7
    exact .inr ⟨g,off,cap,h4,A g h5 h6,by omega,h7,fun i x hi=>h8 i _ (by rw[Yr,hi];rfl)⟩
  .rcases hk with⟨h4,a,c,h5⟩|⟨g,off,cap,h4,h5,h6,h7,h8⟩
   .have hz:gs.length=0:=by rw[<-E,h4];rfl
    exact⟨a,c,by rw[h5,hz],by omega,fun h=>by omega⟩
   .rw[E]at h4 h7
    refine⟨_,cap,h4,h7,fun _=>⟨g,off,rfl,A g h5 h6,by omega,fun j gg hj=>?_⟩⟩;obtain⟨u,C,F⟩:=H j gg hj;have O:=h8 j u C
    cases F with
    |@nd b2 form2 name2 pos2 num2 names2 kids2 nv2 kv2 ps2 hB2 hn2 hb2 hr2 hk2 hs2=>exact⟨b2,O,B,I,.nd hB2 hn2 hb2 hr2 hk2 hs2,R,A⟩
variable {w':World}{κ':Kp}
theorem SR.keep {S:Tag->Prop}{xs:List ByteArray}(h:SR w κ v xs) (A:Fr S κ κ' w w'):SR w' κ' v xs:=by
 rcases h with h|⟨g,off,cap,F,C,B,E,H⟩
 .exact .inl h
 .exact .inr ⟨g,off,cap,F,(A.old g B).trans C,Yj B A.low.size,E,fun i x hi=>(Ke (w:=w) (a:=⟨g,off+i,none⟩) (A.rest g B (fun t ht=>by rw[C]at ht;cases ht))).trans (H i x hi)⟩
theorem KV.keep {S:Tag->Prop}{w w':World}{κ κ':Kp}{v:Value}{gs:List G}(h:KV w κ v gs) (A:Fr S κ κ' w w'):KV w' κ' v gs:=by
 obtain⟨U,kc,O,W,F⟩:=h;refine⟨U,kc,O,W,fun h0=>?_⟩;obtain⟨B,off,K,E,C,R⟩:=F h0;refine⟨B,off,K,(A.old B C).trans E,Yj C A.low.size,fun j g hj=>?_⟩;obtain⟨kb,I,H⟩:=R j g hj;exact⟨kb,(Ke (w:=w) (a:=⟨B,off+j,none⟩) (A.rest B C (fun t ht=>by rw[E]at ht;cases ht))).trans I,H.keep A⟩
theorem ND.keep {S:Tag->Prop}{w w':World}{κ κ':Kp}{tb:Nat}{fm nm:ByteArray}{p n:Int}{nv kv:Value}{ns:List ByteArray}{gs:List G}(h:ND w κ tb fm p n nm nv kv ns gs) (A:Fr S κ κ' w w'):ND w' κ' tb fm p n nm nv kv ns gs:=
 ⟨A.blk h.blk h.tag,A.none h.blk h.tag,h.sr.keep A,h.kv.keep A⟩
structure K3 (w:World) (κ:Kp) (tb gb off m kc:Nat) (gs:List G) (kbs:List Nat):Prop where
 c5:w.cell? ⟨tb,5,none⟩=some (.slice (some ⟨gb,off,none⟩) m kc)
 lt:tb<w.heap.size
 gl:gb<w.heap.size
 at':∀(j kb:Nat),kbs[j]? =some kb->w.cell? ⟨gb,off+j,none⟩=some (.pointer (some ⟨kb,0,none⟩))
 th:∀(j kb:Nat) (g:G),kbs[j]? =some kb->gs[j]? =some g->TH w κ (.pointer (some ⟨kb,0,none⟩)) g
 tt:κ tb=none
 tg:κ gb=none
theorem jyY {α:Type}{P:Nat->α->Prop}:∀(n:Nat),(∀j,j<n->∃a,P j a)->∃l:List α,l.length=n/\∀(j:Nat) (a:α),l[j]? =some a->P j a
 |0,_=>⟨[],rfl,fun j a h=>by simp at h⟩
 |n+1,h=>by
  obtain⟨l,B,E⟩:=jyY n (fun j A=>h j (by omega));obtain⟨a,C⟩:=h n (by omega);refine⟨l ++[a],by simp[B],fun j b A=>?_⟩
  rcases jr5 A with A|⟨rfl,rfl⟩
  .exact E j b A
  .rw[B];exact C
variable {tb:Nat}{kv:Value}
theorem ND.k3 (h:ND w κ tb fm p n nm nv kv ns gs) (A:0<gs.length):∃gb off kc kbs,kbs.length=gs.length/\gs.length<=kc/\K3 w κ tb gb off gs.length kc gs kbs:=by
 obtain⟨W,kc,O,U,B⟩:=h.kv;obtain⟨gb,off,K,F,C,R⟩:=B A
 obtain⟨kbs,I,hk⟩:=jyY (P:=fun j kb=>w.cell? ⟨gb,off+j,none⟩=some (.pointer (some ⟨kb,0,none⟩))/\∀g,gs[j]? =some g->TH w κ (.pointer (some ⟨kb,0,none⟩)) g) gs.length (fun j hj=>by
  obtain⟨kb,H,E⟩:=R j gs[j] (Yb hj)
  exact⟨kb,H,fun g hg=>by rw[Yb hj]at hg;cases hg;exact E⟩)
 refine⟨gb,off,kc,kbs,I,U,?_,jb h.blk,C,fun j kb hj=>(hk j kb hj).1,fun j kb g hj hg=>(hk j kb hj).2 g hg,h.tag,F⟩;have:=ja h.blk 5 rfl;rw[<-K,<-O];exact this
theorem K3.keep {S:Tag->Prop}{w w':World}{κ κ':Kp}{tb B off m kc:Nat}{gs:List G}{C:List Nat}(h:K3 w κ tb B off m kc gs C) (A:Fr S κ κ' w w'):K3 w' κ' tb B off m kc gs C:=by
 have E:w'.heap[tb]? =w.heap[tb]?:=A.rest tb h.lt (fun t ht=>by rw[h.tt]at ht;cases ht);have F:w'.heap[B]? =w.heap[B]?:=A.rest B h.gl (fun t ht=>by rw[h.tg]at ht;cases ht);exact⟨(Ke (w:=w) (a:=⟨tb,5,none⟩) E).trans h.c5,Yj h.lt A.low.size,Yj h.gl A.low.size,fun j kb hj=>(Ke (w:=w) (a:=⟨B,off+j,none⟩) F).trans (h.at' j kb hj),fun j kb g hj hg=>(h.th j kb g hj hg).keep A,(A.old tb h.lt).trans h.tt,(A.old B h.gl).trans h.tg⟩
variable {g0:G}
theorem ND.q1 (h:ND w κ tb fm p n nm nv kv ns [g0]):∃gb off kc kb0,Hid (K3 w κ tb gb off 1 kc [g0] [kb0]):=by
 obtain⟨gb,off,kc,A,B,_,hk⟩:=h.k3 (by simp)
 match A,B,hk with
 |[a],_,hk=>exact⟨gb,off,kc,a,hk⟩
variable {g1:G}
theorem ND.q2 (h:ND w κ tb fm p n nm nv kv ns [g0,g1]):∃gb off kc kb0 kb1,Hid (K3 w κ tb gb off 2 kc [g0,g1] [kb0,kb1]):=by
 obtain⟨gb,off,kc,A,B,_,hk⟩:=h.k3 (by simp)
 match A,B,hk with
 |[a,b],_,hk=>exact⟨gb,off,kc,a,b,hk⟩
variable {g2:G}
theorem ND.q3 (h:ND w κ tb fm p n nm nv kv ns [g0,g1,g2]):∃gb off kc kb0 kb1 kb2,Hid (K3 w κ tb gb off 3 kc [g0,g1,g2] [kb0,kb1,kb2]):=by
 obtain⟨gb,off,kc,A,B,_,hk⟩:=h.k3 (by simp)
 match A,B,hk with
 |[a,b,c],_,hk=>exact⟨gb,off,kc,a,b,c,hk⟩
variable {m:Nat}
theorem K3.f {A off kc:Nat}{B:List Nat}(h:Hid (K3 w κ tb A off m kc gs B)) (he:Hid (EV w κ ev env)) (C:Hid (Fr SD κ κ' w w')) (j kb:Nat) (g:G) (E:B[j]? =some kb) (F:gs[j]? =some g) :
 w'.cell? ⟨tb,5,none⟩=some (.slice (some ⟨A,off,none⟩) m kc)/\tb<w'.heap.size/\A<w'.heap.size/\w'.cell? ⟨A,off+j,none⟩=some (.pointer (some ⟨kb,0,none⟩))/\Hid (TH w' κ' (.pointer (some ⟨kb,0,none⟩)) g)/\Hid (EV w' κ' ev env):=by
 have k:=h.out.keep C.out;exact⟨k.c5,k.lt,k.gl,k.at' j kb E,k.th j kb g E F,he.out.keep C.out⟩
theorem K3.f0 {A off kc:Nat}{B:List Nat}(h:Hid (K3 w κ tb A off m kc gs B)) (he:Hid (EV w κ ev env)) (C:Hid (Fr SD κ κ' w w')) (kb:Nat) (g:G) (E:B[0]? =some kb) (F:gs[0]? =some g) :
 w'.cell? ⟨tb,5,none⟩=some (.slice (some ⟨A,off,none⟩) m kc)/\tb<w'.heap.size/\A<w'.heap.size/\w'.cell? ⟨A,off,none⟩=some (.pointer (some ⟨kb,0,none⟩))/\Hid (TH w' κ' (.pointer (some ⟨kb,0,none⟩)) g)/\Hid (EV w' κ' ev env):=K3.f h he C 0 kb g E F
theorem VQ.op {A:Kp}{w0:World}{e:Ending}(h:VQ cb A w0 S N e w') (B:Hid (Fr SD κ A w w0)):e= .returned (.tuple #[])/\∃κ',Hid (Fr SD κ κ' w w')/\Hid (DM w' κ' cb S N)/\cb<w'.heap.size:=by
 obtain⟨E,κ',F,C⟩:=h;exact⟨E,κ',B.out.trans F,C,C.lt⟩
theorem NQ.op {A:Kp}{w0:World}{t:Nat}{e:Ending}(h:NQ cb A w0 S N t e w') (B:Hid (Fr SD κ A w w0)):∃κ',e= .returned (.int .i64 (t:Nat))/\Hid (Fr SD κ κ' w w')/\Hid (DM w' κ' cb S N)/\cb<w'.heap.size:=by
 obtain⟨κ',E,F,C⟩:=h;exact⟨κ',E,B.out.trans F,C,C.lt⟩
variable {num:Int}{ea:Option Addr}{ec:Nat}
set_option maxRecDepth 100000 in
theorem jG2 (h:DM w κ cb S N) (nd:ND w κ tb ⟨#[110,117,109]⟩ p num nm nv kv [] []) (he:EV w κ (.slice ea env.length ec) env) (K:env.length+6*(1+0)<=9000) (R:N+16*(1+0)<=80000) :
 Calls Tryz.prog 80 #[.pointer (some ⟨cb,0,none⟩),.pointer (some ⟨tb,0,none⟩),.slice ea env.length ec] w (NQ cb κ w (S.put 1 []) (N+16*(1+0)) S.n):=by
 have C:=jH h;have HE:=jH he;have HN:=jH nd;have E:=jH (Fr.refl SD κ w);have U:=ja nd.blk 0 rfl;have W:=jb nd.blk;have Y:=h.lt;clear h he nd
 go_enter Tryz.func80,Tryz.ntmps80
 have O:=jH (joU (s:=⟨#[105,110,116]⟩) (k:=1) C.o (by omega) (KT.nil _ _) (by omega) (by simp) rfl)
 go_wp2_with (go_at_call 51;refine O.o.mono ?_;rintro _ Z A;obtain⟨H,rfl,F,B,I⟩:=A.op E;clear A)
 go_returns;exact⟨H,rfl,F.o,B.o.mono (by omega)⟩
set_option maxRecDepth 100000 in
theorem jGY (h:DM w κ cb S N) (nd:ND w κ tb ⟨#[114,101,97,100]⟩ p num nm nv kv [] []) (he:EV w κ (.slice ea env.length ec) env) (K:env.length+6*(1+0)<=9000) (R:N+16*(1+0)<=80000) :
 Calls Tryz.prog 80 #[.pointer (some ⟨cb,0,none⟩),.pointer (some ⟨tb,0,none⟩),.slice ea env.length ec] w (NQ cb κ w (S.put 1 []) (N+16*(1+0)) S.n):=by
 have C:=jH h;have HE:=jH he;have HN:=jH nd;have E:=jH (Fr.refl SD κ w);have U:=ja nd.blk 0 rfl;have W:=jb nd.blk;have Y:=h.lt;clear h he nd
 go_enter Tryz.func80,Tryz.ntmps80
 have O:=jH (joU (s:=⟨#[105,110,116]⟩) (k:=1) C.o (by omega) (KT.nil _ _) (by omega) (by simp) rfl)
 go_wp2_with (go_at_call 51;refine O.o.mono ?_;rintro _ Z A;obtain⟨H,rfl,F,B,I⟩:=A.op E;clear A)
 go_returns;exact⟨H,rfl,F.o,B.o.mono (by omega)⟩
set_option maxRecDepth 100000 in
theorem jzV (h:DM w κ cb S N) (nd:ND w κ tb ⟨#[98,111,111,108]⟩ p num nm nv kv [] []) (he:EV w κ (.slice ea env.length ec) env) (K:env.length+6*(1+0)<=9000) (R:N+16*(1+0)<=80000) :
 Calls Tryz.prog 80 #[.pointer (some ⟨cb,0,none⟩),.pointer (some ⟨tb,0,none⟩),.slice ea env.length ec] w (NQ cb κ w (S.put 2 []) (N+16*(1+0)) S.n):=by
 have C:=jH h;have HE:=jH he;have HN:=jH nd;have E:=jH (Fr.refl SD κ w);have U:=ja nd.blk 0 rfl;have W:=jb nd.blk;have Y:=h.lt;clear h he nd
 go_enter Tryz.func80,Tryz.ntmps80
 have O:=jH (joU (s:=⟨#[98,111,111,108]⟩) (k:=2) C.o (by omega) (KT.nil _ _) (by omega) (by simp) rfl)
 go_wp2_with (go_at_call 51;refine O.o.mono ?_;rintro _ Z A;obtain⟨H,rfl,F,B,I⟩:=A.op E;clear A)
 go_returns;exact⟨H,rfl,F.o,B.o.mono (by omega)⟩
set_option maxRecDepth 100000 in
theorem jGU (h:DM w κ cb S N) (nd:ND w κ tb ⟨#[117,110,105,116]⟩ p num nm nv kv [] []) (he:EV w κ (.slice ea env.length ec) env) (K:env.length+6*(1+0)<=9000) (R:N+16*(1+0)<=80000) :
 Calls Tryz.prog 80 #[.pointer (some ⟨cb,0,none⟩),.pointer (some ⟨tb,0,none⟩),.slice ea env.length ec] w (NQ cb κ w (S.put 3 []) (N+16*(1+0)) S.n):=by
 have C:=jH h;have HE:=jH he;have HN:=jH nd;have E:=jH (Fr.refl SD κ w);have U:=ja nd.blk 0 rfl;have W:=jb nd.blk;have Y:=h.lt;clear h he nd
 go_enter Tryz.func80,Tryz.ntmps80
 have O:=jH (joU (s:=⟨#[117,110,105,116]⟩) (k:=3) C.o (by omega) (KT.nil _ _) (by omega) (by simp) rfl)
 go_wp2_with (go_at_call 51;refine O.o.mono ?_;rintro _ Z A;obtain⟨H,rfl,F,B,I⟩:=A.op E;clear A)
 go_returns;exact⟨H,rfl,F.o,B.o.mono (by omega)⟩
variable {a:Inf.X}
set_option maxRecDepth 100000 in
theorem jG4 (B:WD cb g0 a) (A:g0.pos=a.p) (h:DM w κ cb S N) (nd:ND w κ tb ⟨#[110,101,103]⟩ p num nm nv kv [] [g0]) (he:EV w κ (.slice ea env.length ec) env) (hl:env.length+6*(1+0+Inf.sz a)<=9000) (hN:N+16*(1+0+Inf.sz a)<=80000) :
 Calls Tryz.prog 80 #[.pointer (some ⟨cb,0,none⟩),.pointer (some ⟨tb,0,none⟩),.slice ea env.length ec] w (NQ cb κ w ((Inf.dP 1 a env S).put 1 []) (N+16*(1+0+Inf.sz a)) (Inf.dP 1 a env S).n):=by
 have I:=jH h;have HE:=jH he;have HN:=jH nd;have F:=jH (Fr.refl SD κ w);have h7:=ja nd.blk 0 rfl;have h8:=jb nd.blk;have h9:=h.lt;obtain⟨gb,off,kc,O,HK⟩:=nd.q1;have Y:=jH B;have h0:=jH A;clear h he nd B A
 go_enter Tryz.func80,Tryz.ntmps80
 obtain⟨h1,h3,h5,h6,K,Z⟩:=K3.f0 HK HE F O _ rfl rfl;have C0:=jH (jpF (k:=1) (s:=⟨#[105,110,116]⟩) Y.o h0.o I.o K.o Z.o (by omega) (by omega) (by omega) rfl)
 go_upto_region 19 with(go_at_call 24;refine C0.o.mono ?_;rintro _ w1 C;obtain⟨rfl,κ1,U,H,h2⟩:=C.op F;clear C)
 have C1:=jH (joU (s:=⟨#[105,110,116]⟩) (k:=1) H.o (by omega) (KT.nil _ _) (by omega) (by simp) rfl)
 go_wp2_with (go_at_call 51;refine C1.o.mono ?_;rintro _ w2 E;obtain⟨κ2,rfl,R,W,h4⟩:=E.op U;clear E)
 go_returns;exact⟨κ2,rfl,R.o,W.o.mono (by omega)⟩
set_option maxRecDepth 100000 in
theorem jG3 (B:WD cb g0 a) (A:g0.pos=a.p) (h:DM w κ cb S N) (nd:ND w κ tb ⟨#[110,111,116]⟩ p num nm nv kv [] [g0]) (he:EV w κ (.slice ea env.length ec) env) (hl:env.length+6*(1+0+Inf.sz a)<=9000) (hN:N+16*(1+0+Inf.sz a)<=80000) :
 Calls Tryz.prog 80 #[.pointer (some ⟨cb,0,none⟩),.pointer (some ⟨tb,0,none⟩),.slice ea env.length ec] w (NQ cb κ w ((Inf.dP 2 a env S).put 2 []) (N+16*(1+0+Inf.sz a)) (Inf.dP 2 a env S).n):=by
 have I:=jH h;have HE:=jH he;have HN:=jH nd;have F:=jH (Fr.refl SD κ w);have h7:=ja nd.blk 0 rfl;have h8:=jb nd.blk;have h9:=h.lt;obtain⟨gb,off,kc,O,HK⟩:=nd.q1;have Y:=jH B;have h0:=jH A;clear h he nd B A
 go_enter Tryz.func80,Tryz.ntmps80
 obtain⟨h1,h3,h5,h6,K,Z⟩:=K3.f0 HK HE F O _ rfl rfl;have C0:=jH (jpF (k:=2) (s:=⟨#[98,111,111,108]⟩) Y.o h0.o I.o K.o Z.o (by omega) (by omega) (by omega) rfl)
 go_upto_region 22 with(go_at_call 24;refine C0.o.mono ?_;rintro _ w1 C;obtain⟨rfl,κ1,U,H,h2⟩:=C.op F;clear C)
 have C1:=jH (joU (s:=⟨#[98,111,111,108]⟩) (k:=2) H.o (by omega) (KT.nil _ _) (by omega) (by simp) rfl)
 go_wp2_with (go_at_call 51;refine C1.o.mono ?_;rintro _ w2 E;obtain⟨κ2,rfl,R,W,h4⟩:=E.op U;clear E)
 go_returns;exact⟨κ2,rfl,R.o,W.o.mono (by omega)⟩
set_option maxRecDepth 100000 in
theorem jG0 (B:WD cb g0 a) (A:g0.pos=a.p) (h:DM w κ cb S N) (nd:ND w κ tb ⟨#[112,114,105,110,116]⟩ p num nm nv kv [] [g0]) (he:EV w κ (.slice ea env.length ec) env) (hl:env.length+6*(1+0+Inf.sz a)<=9000) (hN:N+16*(1+0+Inf.sz a)<=80000) :
 Calls Tryz.prog 80 #[.pointer (some ⟨cb,0,none⟩),.pointer (some ⟨tb,0,none⟩),.slice ea env.length ec] w (NQ cb κ w ((Inf.dP 1 a env S).put 3 []) (N+16*(1+0+Inf.sz a)) (Inf.dP 1 a env S).n):=by
 have I:=jH h;have HE:=jH he;have HN:=jH nd;have F:=jH (Fr.refl SD κ w);have h7:=ja nd.blk 0 rfl;have h8:=jb nd.blk;have h9:=h.lt;obtain⟨gb,off,kc,O,HK⟩:=nd.q1;have Y:=jH B;have h0:=jH A;clear h he nd B A
 go_enter Tryz.func80,Tryz.ntmps80
 obtain⟨h1,h3,h5,h6,K,Z⟩:=K3.f0 HK HE F O _ rfl rfl;have C0:=jH (jpF (k:=1) (s:=⟨#[105,110,116]⟩) Y.o h0.o I.o K.o Z.o (by omega) (by omega) (by omega) rfl)
 go_upto_region 94 with(go_at_call 24;refine C0.o.mono ?_;rintro _ w1 C;obtain⟨rfl,κ1,U,H,h2⟩:=C.op F;clear C)
 have C1:=jH (joU (s:=⟨#[117,110,105,116]⟩) (k:=3) H.o (by omega) (KT.nil _ _) (by omega) (by simp) rfl)
 go_wp2_with (go_at_call 51;refine C1.o.mono ?_;rintro _ w2 E;obtain⟨κ2,rfl,R,W,h4⟩:=E.op U;clear E)
 go_returns;exact⟨κ2,rfl,R.o,W.o.mono (by omega)⟩
set_option maxRecDepth 100000 in
theorem jG6 (B:WD cb g0 a) (A:g0.pos=a.p) (h:DM w κ cb S N) (nd:ND w κ tb ⟨#[108,101,110]⟩ p num nm nv kv [] [g0]) (he:EV w κ (.slice ea env.length ec) env) (hl:env.length+6*(1+0+Inf.sz a)<=9000) (hN:N+16*(1+0+Inf.sz a)<=80000) :
 Calls Tryz.prog 80 #[.pointer (some ⟨cb,0,none⟩),.pointer (some ⟨tb,0,none⟩),.slice ea env.length ec] w (NQ cb κ w ((Inf.dE a env S).2.put 1 []) (N+16*(1+0+Inf.sz a)) (Inf.dE a env S).2.n):=by
 have I:=jH h;have HE:=jH he;have HN:=jH nd;have F:=jH (Fr.refl SD κ w);have h7:=ja nd.blk 0 rfl;have h8:=jb nd.blk;have h9:=h.lt;obtain⟨gb,off,kc,O,HK⟩:=nd.q1;have Y:=jH B;have h0:=jH A;clear h he nd B A
 go_enter Tryz.func80,Tryz.ntmps80
 obtain⟨h1,h3,h5,h6,K,Z⟩:=K3.f0 HK HE F O _ rfl rfl;have C0:=jH (jwt  Y.o h0.o I.o K.o Z.o (by omega) (by omega))
 go_upto_region 91 with(go_at_call 96;refine C0.o.mono ?_;rintro _ w1 C;obtain⟨κ1,rfl,U,H,h2⟩:=C.op F;clear C)
 have C1:=jH (joU (s:=⟨#[105,110,116]⟩) (k:=1) H.o (by omega) (KT.nil _ _) (by omega) (by simp) rfl)
 go_wp2_with (go_at_call 51;refine C1.o.mono ?_;rintro _ w2 E;obtain⟨κ2,rfl,R,W,h4⟩:=E.op U;clear E)
 go_returns;exact⟨κ2,rfl,R.o,W.o.mono (by omega)⟩
variable {b:Inf.X}
set_option maxRecDepth 100000 in
theorem jGW (B:WD cb g0 a) (A:g0.pos=a.p) (C:WD cb g1 b) (E:g1.pos=b.p) (h:DM w κ cb S N) (nd:ND w κ tb ⟨#[115,101,113]⟩ p num nm nv kv [] [g0,g1]) (he:EV w κ (.slice ea env.length ec) env) (hl:env.length+6*(1+0+Inf.sz a+Inf.sz b)<=9000) (hN:N+16*(1+0+Inf.sz a+Inf.sz b)<=80000) :
 Calls Tryz.prog 80 #[.pointer (some ⟨cb,0,none⟩),.pointer (some ⟨tb,0,none⟩),.slice ea env.length ec] w (NQ cb κ w (Inf.dW b env (Inf.dP 3 a env S)).2 (N+16*(1+0+Inf.sz a+Inf.sz b)) (Inf.dW b env (Inf.dP 3 a env S)).1):=by
 have R:=jH h;have HE:=jH he;have HN:=jH nd;have K:=jH (Fr.refl SD κ w);have q4:=ja nd.blk 0 rfl;have q5:=jb nd.blk;have q7:=h.lt;obtain⟨gb,off,kc,h1,h0,HK⟩:=nd.q2;have h4:=jH B;have h6:=jH A;have Z:=jH C;have q6:=jH E;clear h he nd B A C E
 go_enter Tryz.func80,Tryz.ntmps80
 obtain⟨h7,k2,k5,k7,W,h5⟩:=K3.f0 HK HE K h1 _ rfl rfl;have C0:=jH (jpF (k:=3) (s:=⟨#[117,110,105,116]⟩) h4.o h6.o R.o W.o h5.o (by omega) (by omega) (by omega) rfl)
 go_upto_region 96 with(go_at_call 24;refine C0.o.mono ?_;rintro _ w1 F;obtain⟨rfl,κ1,H,O,h8⟩:=F.op K;clear F)
 obtain⟨k9,k8,k1,h9,Y,U⟩:=K3.f HK HE H 1 h0 _ rfl rfl;have C1:=jH (Z.o _ _ _ _ _ _ _ O.o Y.o U.o (by omega) (by omega))
 go_wp2_with (go_at_call 80;refine C1.o.mono ?_;rintro _ w2 I;obtain⟨κ2,rfl,h2,h3,k4⟩:=I.op H;clear I)
 go_returns;exact⟨κ2,rfl,h2.o,h3.o.mono (by omega)⟩
set_option maxRecDepth 100000 in
theorem jG8 (B:WD cb g0 a) (A:g0.pos=a.p) (C:WD cb g1 b) (E:g1.pos=b.p) (h:DM w κ cb S N) (nd:ND w κ tb ⟨#[103,101,116]⟩ p num nm nv kv [] [g0,g1]) (he:EV w κ (.slice ea env.length ec) env) (hl:env.length+6*(1+0+Inf.sz a+Inf.sz b)<=9000) (hN:N+16*(1+0+Inf.sz a+Inf.sz b)<=80000) :
 Calls Tryz.prog 80 #[.pointer (some ⟨cb,0,none⟩),.pointer (some ⟨tb,0,none⟩),.slice ea env.length ec] w (NQ cb κ w (Inf.dP 1 b env (Inf.dE a env S).2) (N+16*(1+0+Inf.sz a+Inf.sz b)) (Inf.dE a env S).1):=by
 have R:=jH h;have HE:=jH he;have HN:=jH nd;have K:=jH (Fr.refl SD κ w);have q5:=ja nd.blk 0 rfl;have q6:=jb nd.blk;have q7:=h.lt;obtain⟨gb,off,kc,h1,h0,HK⟩:=nd.q2;have h5:=jH B;have h7:=jH A;have Z:=jH C;have h2:=jH E;clear h he nd B A C E
 go_enter Tryz.func80,Tryz.ntmps80
 obtain⟨h8,k4,k7,k8,W,h6⟩:=K3.f0 HK HE K h1 _ rfl rfl;have C0:=jH (jwt  h5.o h7.o R.o W.o h6.o (by omega) (by omega))
 go_upto_region 78 with(go_at_call 96;refine C0.o.mono ?_;rintro _ w1 F;obtain⟨κ1,rfl,H,O,h9⟩:=F.op K;clear F)
 obtain⟨q4,k9,k2,k1,Y,U⟩:=K3.f HK HE H 1 h0 _ rfl rfl;have C1:=jH (jpF (k:=1) (s:=⟨#[105,110,116]⟩) Z.o h2.o O.o Y.o U.o (by omega) (by omega) (by omega) rfl)
 go_wp2_with (go_at_call 24;refine C1.o.mono ?_;rintro _ w2 I;obtain⟨rfl,κ2,h3,h4,k5⟩:=I.op H;clear I)
 go_returns;exact⟨κ2,rfl,h3.o,h4.o.mono (by omega)⟩
set_option maxRecDepth 100000 in
theorem jGZ (E:WD cb g0 a) (C:g0.pos=a.p) (F:WD cb g1 b) (H:g1.pos=b.p) {d:Inf.X}(A:WD cb g2 d) (B:g2.pos=d.p) (h:DM w κ cb S N) (nd:ND w κ tb ⟨#[112,117,116]⟩ p num nm nv kv [] [g0,g1,g2]) (he:EV w κ (.slice ea env.length ec) env) (hl:env.length+6*(1+0+Inf.sz a+Inf.sz b+Inf.sz d)<=9000) (hN:N+16*(1+0+Inf.sz a+Inf.sz b+Inf.sz d)<=80000) :
 Calls Tryz.prog 80 #[.pointer (some ⟨cb,0,none⟩),.pointer (some ⟨tb,0,none⟩),.slice ea env.length ec] w (NQ cb κ w (((Inf.dW d env (Inf.dP 1 b env (Inf.dE a env S).2)).2.dem (Inf.dW d env (Inf.dP 1 b env (Inf.dE a env S).2)).1 (Inf.dE a env S).1 d.p).put 3 []) (N+16*(1+0+Inf.sz a+Inf.sz b+Inf.sz d)) ((Inf.dW d env (Inf.dP 1 b env (Inf.dE a env S).2)).2.dem (Inf.dW d env (Inf.dP 1 b env (Inf.dE a env S).2)).1 (Inf.dE a env S).1 d.p).n):=by
 have k7:=jH h;have Z:=jH he;have HN:=jH nd;have K:=jH (Fr.refl SD κ w);have v6:=ja nd.blk 0 rfl;have v7:=jb nd.blk;have v8:=h.lt;obtain⟨gb,off,kc,h6,h4,k2,HK⟩:=nd.q3;have h9:=jH E;have q7:=jH C;have h3:=jH F;have h7:=jH H;have q5:=jH A;have k1:=jH B;clear h he nd E C F H A B
 go_enter Tryz.func80,Tryz.ntmps80
 obtain⟨q9,v1,r6,v3,h1,q6⟩:=K3.f0 HK Z K h6 _ rfl rfl;have C0:=jH (jwt  h9.o q7.o k7.o h1.o q6.o (by omega) (by omega))
 go_upto_region 82 with(go_at_call 96;refine C0.o.mono ?_;rintro _ w1 R;obtain⟨κ1,rfl,W,h0,r9⟩:=R.op K;clear R)
 obtain⟨v5,r7,r3,r2,h2,k8⟩:=K3.f HK Z W 1 h4 _ rfl rfl;have C1:=jH (jpF (k:=1) (s:=⟨#[105,110,116]⟩) h3.o h7.o h0.o h2.o k8.o (by omega) (by omega) (by omega) rfl)
 go_upto_region 83 with(go_at_call 24;refine C1.o.mono ?_;rintro _ w2 Y;obtain⟨rfl,κ2,U,q4,r5⟩:=Y.op W;clear Y)
 obtain⟨r1,r4,v4,v2,k4,k5⟩:=K3.f HK Z U 2 k2 _ rfl rfl;have C2:=jH (jrR (b:=(Inf.dE a env S).1) (z:=((Inf.dE a env S).1:Nat)) q5.o k1.o q4.o k4.o k5.o (by omega) (by omega) rfl)
 go_upto_region 84 with(go_at_call 52;refine C2.o.mono ?_;rintro _ w3 I;obtain⟨rfl,κ3,h8,k9,r8⟩:=I.op U;clear I)
 have C3:=jH (joU (s:=⟨#[117,110,105,116]⟩) (k:=3) k9.o (by omega) (KT.nil _ _) (by omega) (by simp) rfl)
 go_wp2_with (go_at_call 51;refine C3.o.mono ?_;rintro _ w4 O;obtain⟨κ4,rfl,q8,h5,v0⟩:=O.op h8;clear O)
 go_returns;exact⟨κ4,rfl,q8.o,h5.o.mono (by omega)⟩
set_option maxRecDepth 100000 in
theorem jG7 (B:WD cb g0 a) (A:g0.pos=a.p) (C:WD cb g1 b) (E:g1.pos=b.p) {d:Inf.X}(F:WD cb g2 d) (H:g2.pos=d.p) (h:DM w κ cb S N) (nd:ND w κ tb ⟨#[105,102]⟩ p num nm nv kv [] [g0,g1,g2]) (he:EV w κ (.slice ea env.length ec) env) (hl:env.length+6*(1+0+Inf.sz a+Inf.sz b+Inf.sz d)<=9000) (hN:N+16*(1+0+Inf.sz a+Inf.sz b+Inf.sz d)<=80000) :
 Calls Tryz.prog 80 #[.pointer (some ⟨cb,0,none⟩),.pointer (some ⟨tb,0,none⟩),.slice ea env.length ec] w (NQ cb κ w ((Inf.dW d env (Inf.dW b env (Inf.dP 2 a env S)).2).2.dem (Inf.dW d env (Inf.dW b env (Inf.dP 2 a env S)).2).1 (Inf.dW b env (Inf.dP 2 a env S)).1 d.p) (N+16*(1+0+Inf.sz a+Inf.sz b+Inf.sz d)) (Inf.dW b env (Inf.dP 2 a env S)).1):=by
 have h2:=jH h;have Y:=jH he;have HN:=jH nd;have W:=jH (Fr.refl SD κ w);have v2:=ja nd.blk 0 rfl;have v3:=jb nd.blk;have v5:=h.lt;obtain⟨gb,off,kc,h9,h7,k8,Z⟩:=nd.q3;have k4:=jH B;have k9:=jH A;have h6:=jH C;have v4:=jH E;have k2:=jH F;have k5:=jH H;clear h he nd B A C E F H
 go_enter Tryz.func80,Tryz.ntmps80
 obtain⟨q7,r4,r7,r8,h4,k7⟩:=K3.f0 Z Y W h9 _ rfl rfl;have C0:=jH (jpF (k:=2) (s:=⟨#[98,111,111,108]⟩) k4.o k9.o h2.o h4.o k7.o (by omega) (by omega) (by omega) rfl)
 go_upto_region 32 with(go_at_call 24;refine C0.o.mono ?_;rintro _ w1 I;obtain⟨rfl,κ1,O,h0,q9⟩:=I.op W;clear I)
 obtain⟨v1,v0,r2,r1,h5,h3⟩:=K3.f Z Y O 1 h7 _ rfl rfl;have C1:=jH (h6.o _ _ _ _ _ _ _ h0.o h5.o h3.o (by omega) (by omega))
 go_upto_region 33 with(go_at_call 80;refine C1.o.mono ?_;rintro _ w2 R;obtain⟨κ2,rfl,K,k1,r6⟩:=R.op O;clear R)
 obtain⟨q8,r3,r9,r5,q4,h1⟩:=K3.f Z Y K 2 k8 _ rfl rfl;have C2:=jH (jrR (b:=(Inf.dW b env (Inf.dP 2 a env S)).1) (z:=((Inf.dW b env (Inf.dP 2 a env S)).1:Nat)) k2.o k5.o k1.o q4.o h1.o (by omega) (by omega) rfl)
 go_wp2_with (go_at_call 52;refine C2.o.mono ?_;rintro _ w3 U;obtain⟨rfl,κ3,q5,h8,q6⟩:=U.op K;clear U)
 go_returns;exact⟨κ3,rfl,q5.o,h8.o.mono (by omega)⟩
set_option maxRecDepth 100000 in
theorem jHc (B:WD cb g0 a) (A:g0.pos=a.p) (C:WD cb g1 b) (E:g1.pos=b.p) (h:DM w κ cb S N) (nd:ND w κ tb ⟨#[97,114,114,97,121]⟩ p num nm nv kv [] [g0,g1]) (he:EV w κ (.slice ea env.length ec) env) (hl:env.length+6*(1+0+Inf.sz a+Inf.sz b)<=9000) (hN:N+16*(1+0+Inf.sz a+Inf.sz b)<=80000) :
 Calls Tryz.prog 80 #[.pointer (some ⟨cb,0,none⟩),.pointer (some ⟨tb,0,none⟩),.slice ea env.length ec] w (NQ cb κ w ((Inf.dW b env (Inf.dP 1 a env S)).2.put 4 [(Inf.dW b env (Inf.dP 1 a env S)).1]) (N+16*(1+0+Inf.sz a+Inf.sz b)) (Inf.dW b env (Inf.dP 1 a env S)).2.n):=by
 have U:=jH h;have HE:=jH he;have HN:=jH nd;have O:=jH (Fr.refl SD κ w);have q6:=ja nd.blk 0 rfl;have q7:=jb nd.blk;have q9:=h.lt;obtain⟨gb,off,kc,h2,h1,HK⟩:=nd.q2;have h4:=jH B;have h7:=jH A;have h0:=jH C;have q8:=jH E;clear h he nd B A C E
 go_enter Tryz.func80,Tryz.ntmps80
 obtain⟨h9,k5,k8,k9,Y,h6⟩:=K3.f0 HK HE O h2 _ rfl rfl;have C0:=jH (jpF (k:=1) (s:=⟨#[105,110,116]⟩) h4.o h7.o U.o Y.o h6.o (by omega) (by omega) (by omega) rfl)
 go_upto_region 87 with(go_at_call 24;refine C0.o.mono ?_;rintro _ w1 F;obtain⟨rfl,κ1,H,R,k1⟩:=F.op O;clear F)
 obtain⟨q5,q4,k4,k2,Z,W⟩:=K3.f HK HE H 1 h1 _ rfl rfl;have C1:=jH (h0.o _ _ _ _ _ _ _ R.o Z.o W.o (by omega) (by omega))
 go_upto_region 88 with(go_at_call 80;refine C1.o.mono ?_;rintro _ w2 I;obtain⟨κ2,rfl,h3,K,k7⟩:=I.op H;clear I)
 have CA:=jH (joU (s:=⟨#[97,114,114,97,121]⟩) (k:=4) (K.o.on (jB.alloc jN (.cells #[.int .i64 ((Inf.dW b env (Inf.dP 1 a env S)).1:Nat)] 3 (0,0)))) (by omega) (KT.one (Inf.dW b env (Inf.dP 1 a env S)).1 K.o.top) (by omega) (by simp) rfl)
 go_wp2_with (go_at_call 51;refine CA.o.mono ?_;rintro _ w3 ⟨κ3,rfl,h8,h5⟩)
 go_returns;exact⟨κ3,rfl,(h3.o.trans (Fr.of (jB.alloc jN _))).trans h8,h5.mono (by omega)⟩
set_option maxRecDepth 100000 in
theorem jzU (C:WD cb g0 a) (B:g0.pos=a.p) (E:WD cb g1 b) (F:g1.pos=b.p) (Y:jpi nm=false) (h:DM w κ cb S N) (nd:ND w κ tb ⟨#[111,112]⟩ p num nm nv kv [] [g0,g1]) (he:EV w κ (.slice ea env.length ec) env) (hl:env.length+6*(1+0+Inf.sz a+Inf.sz b)<=9000) (hN:N+16*(1+0+Inf.sz a+Inf.sz b)<=80000) :
 Calls Tryz.prog 80 #[.pointer (some ⟨cb,0,none⟩),.pointer (some ⟨tb,0,none⟩),.slice ea env.length ec] w (NQ cb κ w ((Inf.dP 1 b env (Inf.dP 1 a env S)).put 1 []) (N+16*(1+0+Inf.sz a+Inf.sz b)) (Inf.dP 1 b env (Inf.dP 1 a env S)).n):=by
 have h0:=jH h;have HE:=jH he;have HN:=jH nd;have W:=jH (Fr.refl SD κ w);have r3:=ja nd.blk 0 rfl;have r4:=jb nd.blk;have r7:=h.lt;obtain⟨gb,off,kc,h7,h5,HK⟩:=nd.q2;have k1:=jH C;have k4:=jH B;have h4:=jH E;have h8:=jH F;have HC:=jH Y;clear h he nd C B E F Y
 go_enter Tryz.func80,Tryz.ntmps80
 obtain⟨k8,q6,q8,q9,h2,k2⟩:=K3.f0 HK HE W h7 _ rfl rfl;have C0:=jH (jpF (k:=1) (s:=⟨#[105,110,116]⟩) k1.o k4.o h0.o h2.o k2.o (by omega) (by omega) (by omega) rfl)
 go_upto_region 25 with(go_at_call 24;refine C0.o.mono ?_;rintro _ w1 I;obtain⟨rfl,κ1,O,Z,k9⟩:=I.op W;clear I)
 obtain⟨r2,r1,q5,q4,h3,h1⟩:=K3.f HK HE O 1 h5 _ rfl rfl;have C1:=jH (jpF (k:=1) (s:=⟨#[105,110,116]⟩) h4.o h8.o Z.o h3.o h1.o (by omega) (by omega) (by omega) rfl)
 go_upto_region 26 with(go_at_call 24;refine C1.o.mono ?_;rintro _ w2 R;obtain⟨rfl,κ2,K,h9,q7⟩:=R.op O;clear R)
 have H:=HN.o.keep K.o;have c3:=ja H.blk 3 rfl;have r6:=jb H.blk;have CC:=jH (jqE nm w2);rw[HC.o]at CC;clear H;have C2:=jH (joU (s:=⟨#[105,110,116]⟩) (k:=1) h9.o (by omega) (KT.nil _ _) (by omega) (by simp) rfl)
 go_wp2_with (first
  |(go_at_call 74;refine CC.o.mono ?_;rintro _ r5 ⟨rfl,A⟩;have A:=A.symm;subst A)
  |(go_at_call 51;refine C2.o.mono ?_;rintro _ w3 U;obtain⟨κ3,rfl,k5,h6,k7⟩:=U.op K;clear U))
 go_returns;exact⟨κ3,rfl,k5.o,h6.o.mono (by omega)⟩
set_option maxRecDepth 100000 in
theorem jHa (C:WD cb g0 a) (B:g0.pos=a.p) (E:WD cb g1 b) (F:g1.pos=b.p) (Y:jpi nm=true) (h:DM w κ cb S N) (nd:ND w κ tb ⟨#[111,112]⟩ p num nm nv kv [] [g0,g1]) (he:EV w κ (.slice ea env.length ec) env) (hl:env.length+6*(1+0+Inf.sz a+Inf.sz b)<=9000) (hN:N+16*(1+0+Inf.sz a+Inf.sz b)<=80000) :
 Calls Tryz.prog 80 #[.pointer (some ⟨cb,0,none⟩),.pointer (some ⟨tb,0,none⟩),.slice ea env.length ec] w (NQ cb κ w ((Inf.dP 1 b env (Inf.dP 1 a env S)).put 2 []) (N+16*(1+0+Inf.sz a+Inf.sz b)) (Inf.dP 1 b env (Inf.dP 1 a env S)).n):=by
 have h0:=jH h;have HE:=jH he;have HN:=jH nd;have W:=jH (Fr.refl SD κ w);have r3:=ja nd.blk 0 rfl;have r4:=jb nd.blk;have r7:=h.lt;obtain⟨gb,off,kc,h7,h5,HK⟩:=nd.q2;have k1:=jH C;have k4:=jH B;have h4:=jH E;have h8:=jH F;have HC:=jH Y;clear h he nd C B E F Y
 go_enter Tryz.func80,Tryz.ntmps80
 obtain⟨k8,q6,q8,q9,h2,k2⟩:=K3.f0 HK HE W h7 _ rfl rfl;have C0:=jH (jpF (k:=1) (s:=⟨#[105,110,116]⟩) k1.o k4.o h0.o h2.o k2.o (by omega) (by omega) (by omega) rfl)
 go_upto_region 25 with(go_at_call 24;refine C0.o.mono ?_;rintro _ w1 I;obtain⟨rfl,κ1,O,Z,k9⟩:=I.op W;clear I)
 obtain⟨r2,r1,q5,q4,h3,h1⟩:=K3.f HK HE O 1 h5 _ rfl rfl;have C1:=jH (jpF (k:=1) (s:=⟨#[105,110,116]⟩) h4.o h8.o Z.o h3.o h1.o (by omega) (by omega) (by omega) rfl)
 go_upto_region 26 with(go_at_call 24;refine C1.o.mono ?_;rintro _ w2 R;obtain⟨rfl,κ2,K,h9,q7⟩:=R.op O;clear R)
 have H:=HN.o.keep K.o;have c3:=ja H.blk 3 rfl;have r6:=jb H.blk;have CC:=jH (jqE nm w2);rw[HC.o]at CC;clear H;have C2:=jH (joU (s:=⟨#[98,111,111,108]⟩) (k:=2) h9.o (by omega) (KT.nil _ _) (by omega) (by simp) rfl)
 go_wp2_with (first
  |(go_at_call 74;refine CC.o.mono ?_;rintro _ r5 ⟨rfl,A⟩;have A:=A.symm;subst A)
  |(go_at_call 51;refine C2.o.mono ?_;rintro _ w3 U;obtain⟨κ3,rfl,k5,h6,k7⟩:=U.op K;clear U))
 go_returns;exact⟨κ3,rfl,k5.o,h6.o.mono (by omega)⟩
theorem wd_at {B:Nat}{b i:Nat}(h:w.cell? ⟨b,i,none⟩=some v) (A:b<B) (x:Wd B w):x.v.cell? ⟨b,i,none⟩=some v:=(x.h.cell (p:=⟨b,i,none⟩) A).trans h
theorem jxN {b:Nat}{x:ByteArray}(hk:κ b=none) (A:w.heap[b]? =some (.cells #[.string x] 9 (0,0))):SR w κ (.slice (some ⟨b,0,none⟩) 1 1) [x]:=by
 refine .inr ⟨b,0,1,rfl,hk,jb A,jN,fun i y hi=>?_⟩
 cases i with
 |zero=>cases hi;exact ja A 0 rfl
 |succ i=>simp at hi
theorem KT.first {a:Option Addr}{c x:Nat}{xs:List Nat}(h:KT w κ (.slice a m c) (x ::xs)):∃g off,a=some ⟨g,off,none⟩/\κ g=none/\g<w.heap.size/\w.cell? ⟨g,off,none⟩=some (.int .i64 (x:Nat)):=by
 rcases h with⟨_,h⟩|⟨g,off,cap,A,_,C,B,E⟩
 .cases h
 .injection A with A _ _
  exact⟨g,off,A,C,B,E 0 x rfl⟩
set_option maxRecDepth 100000 in
theorem jG5 (Y:WD cb g0 a) (W:g0.pos=a.p) (h0:WD cb g1 b) (h2:g1.pos=b.p) (h:DM w κ cb S N) (nd:ND w κ tb ⟨#[108,101,116]⟩ p num nm nv kv [] [g0,g1]) (he:EV w κ (.slice ea env.length ec) env) (hl:env.length+6*(1+0+Inf.sz a+Inf.sz b)<=9000) (hN:N+16*(1+0+Inf.sz a+Inf.sz b)<=80000) :
 Calls Tryz.prog 80 #[.pointer (some ⟨cb,0,none⟩),.pointer (some ⟨tb,0,none⟩),.slice ea env.length ec] w (NQ cb κ w (Inf.dW b (Inf.upFrom S.n [nm] env) ((Inf.dW a env (S.each [nm] p)).2.dem (Inf.dW a env (S.each [nm] p)).1 S.n a.p)).2 (N+16*(1+0+Inf.sz a+Inf.sz b)) (Inf.dW b (Inf.upFrom S.n [nm] env) ((Inf.dW a env (S.each [nm] p)).2.dem (Inf.dW a env (S.each [nm] p)).1 S.n a.p)).1):=by
 have k8:=jH h;have HE:=jH he;have HN:=jH nd;have y0:=jH (Fr.refl SD κ w);have x8:=ja nd.blk 0 rfl;have h7:=jb nd.blk;have y1:=h.lt;obtain⟨gb,off,kc,k4,h8,r2,q4⟩:=nd.k3 (by simp);have HK:=jH q4
 obtain⟨B,F,v1⟩:∃B F,k4=[B,F]:=by
  match k4,h8 with
  |[B,F],_=>exact⟨B,F,rfl⟩
 subst v1;have r6:=jH Y;have v6:=jH W;have r5:=jH h0;have x9:=jH h2;clear h he nd q4 h8 r2 Y W h0 h2
 go_enter Tryz.func80,Tryz.ntmps80
 go_upto_region 36 with fail
 have f3:∀A:Wd w.heap.size w,A.v.cell? ⟨tb,3,none⟩=some (.string nm):=wd_at (ja HN.o.blk 3 rfl) h7;have f1:∀A:Wd w.heap.size w,A.v.cell? ⟨tb,1,none⟩=some (.int .i64 p):=wd_at (ja HN.o.blk 1 rfl) h7;have q9:=jH k8.o.top;have CE:=jH (show ∀(A:Wd w.heap.size w) (I:Nat),w.heap.size<=I->A.v.heap[I]? =some (.cells #[.string nm] 9 (0,0))->Calls Tryz.prog 94 #[.pointer (some ⟨cb,0,none⟩),.slice (some ⟨I,0,none⟩) 1 1,.int .i64 p,.slice ea env.length ec] A.v (EP cb A.v κ S N env [nm] p)from fun A I K O=>jsD (k8.o.on A.h) (jxN (q9.o I K) O) (HE.o.keep (Fr.of (S:=SD) A.h)) p (by simp) (by omega) (by omega));haveI:=Wd.ne;refine jwV 11 5 188 (fun b=>.slice (some ⟨b,0,none⟩) 1 1) (.cells #[.string nm] 9 (0,0)) _ (by kernel_rfl) (by kernel_rfl) (by kernel_rfl) (by decide) rfl rfl rfl ?_;simp only[TkD]
 iterate 5
  apply jd (by decide) (by rfl)
  .intro A;go_simp;all_goals with_reducible rfl
  simp only[Act.put,SsT]
 refine Jh (by decide) (fun w=>by kernel_rfl) ?_
 iterate 5
  apply jd (by decide) (by rfl)
  .intro A;go_simp;all_goals with_reducible rfl
  simp only[Act.put,SsT]
 refine js ?_;intro I A K O;have r3:=jH K;have v5:=jH O;have v4:=jH A.h;clear K O f3 f1
 go_upto_region 37 with(go_at_call 94;refine(CE.o A I r3.o v5.o).mono ?_;rintro _ H ⟨κ1,a1,c1,y4,y3,rfl,k5,Z,h9,k9⟩;have h3:=jH ((Fr.of (S:=SD) (κ:=κ) v4.o).trans k5);have r1:=jH Z;have v2:=jH h9;have r9:=jH k9;have x5:=Z.lt;clear k5 Z h9 k9)
 obtain⟨tg,v9,x0,_,r7,k2⟩:=KT.first (x:=S.n) (xs:=[]) v2.o;subst x0;have C:=HK.o.keep h3.o;have h5:=C.c5;have q6:=C.lt;have q5:=C.gl;have h6:H.cell? ⟨gb,off,none⟩=some (.pointer (some ⟨B,0,none⟩)):=C.at' 0 B rfl;have r4:=jH (C.th 0 B _ rfl rfl);have q8:=jH (HE.o.keep h3.o);clear C;have g5:∀A:Wd H.heap.size H,A.v.cell? ⟨tb,5,none⟩=some (.slice (some ⟨gb,off,none⟩) 2 kc):=wd_at h5 q6;have g0:∀A:Wd H.heap.size H,A.v.cell? ⟨gb,off,none⟩=some (.pointer (some ⟨B,0,none⟩)):=wd_at h6 q5;have gt:∀A:Wd H.heap.size H,A.v.cell? ⟨tg,v9,none⟩=some (.int .i64 (S.n:Nat)):=wd_at k2 r7;have CM:=jH (show ∀A:Wd H.heap.size H,Calls Tryz.prog 52 #[.pointer (some ⟨cb,0,none⟩),.pointer (some ⟨B,0,none⟩),.slice ea env.length ec,.int .i64 (S.n:Nat)] A.v (VQ cb κ1 A.v ((Inf.dW a env (S.each [nm] p)).2.dem (Inf.dW a env (S.each [nm] p)).1 S.n a.p) (N+1+16*Inf.sz a+1))from fun A=>jrR (b:=S.n) r6.o v6.o (r1.o.on A.h) (r4.o.keep (Fr.of (S:=SD) A.h)) (q8.o.keep (Fr.of (S:=SD) A.h)) (by omega) (by omega) rfl);clear h5 h6 k2;have u0:(0:Int)<2:=by omega
 refine jP 11 12 (by kernel_rfl) (by kernel_rfl) (by decide) ?_;simp only[TkD]
 iterate 11
  apply jd (by decide) (by rfl)
  .intro A;go_simp;all_goals with_reducible rfl
  simp only[Act.put,SsT]
 refine js ?_;intro A;have k1:=jH A.h;clear g5 g0 gt
 go_upto_region 38 with(go_at_call 52;refine(CM.o A).mono ?_;rintro _ w2 ⟨rfl,κ2,R,h4⟩;have q7:=jH ((Fr.of (S:=SD) (κ:=κ1) k1.o).trans R);have h1:=jH (h3.o.trans ((Fr.of (S:=SD) (κ:=κ1) k1.o).trans R));have v3:=jH h4;have x3:=h4.lt;clear R h4)
 have E:=HK.o.keep h1.o;have x1:=E.c5;have x2:=E.lt;have x7:=E.gl;have x6:w2.cell? ⟨gb,off+1,none⟩=some (.pointer (some ⟨F,0,none⟩)):=E.at' 1 F rfl;have r8:=jH (E.th 1 F _ rfl rfl);have y2:=jH (HE.o.keep h1.o);clear E;have v7:=jH (r9.o.keep q7.o);have C2:=jH (r5.o _ _ _ _ _ _ _ v3.o r8.o v7.o (by rw[Inf.upFrom_len];simp only[Yk,List.length_nil];omega) (by omega))
 go_wp2_with (go_at_call 80;refine C2.o.mono ?_;rintro _ w3 ⟨κ3,rfl,k7,U⟩;have v8:=jH (h1.o.trans k7);have v0:=jH U;have x4:=U.lt;clear k7 U)
 go_returns;exact⟨κ3,rfl,v8.o,v0.o.mono (by omega)⟩
theorem rng_len (n m:Nat):(Inf.rng n m).length=m:=by simp[Inf.rng]
set_option maxRecDepth 100000 in
theorem jG1 (Y:WD cb g0 a) (W:g0.pos=a.p) (h1:WD cb g1 b) (h3:g1.pos=b.p) (h6:ns.length<=6) (h:DM w κ cb S N) (nd:ND w κ tb ⟨#[112,97,105,114]⟩ p num nm nv kv ns [g0,g1]) (he:EV w κ (.slice ea env.length ec) env) (hl:env.length+6*(1+0+Inf.sz a+Inf.sz b)<=9000) (hN:N+16*(1+0+Inf.sz a+Inf.sz b)<=80000) :
 Calls Tryz.prog 80 #[.pointer (some ⟨cb,0,none⟩),.pointer (some ⟨tb,0,none⟩),.slice ea env.length ec] w (NQ cb κ w (Inf.dW b (Inf.upFrom S.n ns env) ((Inf.dW a env ((S.each ns p).put 5 (Inf.rng S.n ns.length))).2.dem (Inf.dW a env ((S.each ns p).put 5 (Inf.rng S.n ns.length))).1 (S.n+ns.length) a.p)).2 (N+16*(1+0+Inf.sz a+Inf.sz b)) (Inf.dW b (Inf.upFrom S.n ns env) ((Inf.dW a env ((S.each ns p).put 5 (Inf.rng S.n ns.length))).2.dem (Inf.dW a env ((S.each ns p).put 5 (Inf.rng S.n ns.length))).1 (S.n+ns.length) a.p)).1):=by
 have r1:=jH h;have HE:=jH he;have HN:=jH nd;have x7:=jH (Fr.refl SD κ w);have x5:=ja nd.blk 0 rfl;have h5:=jb nd.blk;have x8:=h.lt;obtain⟨gb,off,kc,h9,h7,k8,k4⟩:=nd.k3 (by simp);have HK:=jH k4
 obtain⟨F,E,r4⟩:∃F E,h9=[F,E]:=by
  match h9,h7 with
  |[F,E],_=>exact⟨F,E,rfl⟩
 subst r4;have q7:=jH Y;have r9:=jH W;have q4:=jH h1;have x6:=jH h3;clear h he nd k4 h7 k8 Y W h1 h3
 go_enter Tryz.func80,Tryz.ntmps80
 go_upto_region 40 with fail
 obtain⟨sa,sc,H⟩:=HN.o.sr.slice;have y1:=jH H;have f4:∀A:Wd w.heap.size w,A.v.cell? ⟨tb,4,none⟩=some (.slice sa ns.length sc):=wd_at (by rw[<-H];exact ja HN.o.blk 4 rfl) h5;have f1:∀A:Wd w.heap.size w,A.v.cell? ⟨tb,1,none⟩=some (.int .i64 p):=wd_at (ja HN.o.blk 1 rfl) h5;have CE:=jH (show ∀(A:Wd w.heap.size w),Calls Tryz.prog 94 #[.pointer (some ⟨cb,0,none⟩),.slice sa ns.length sc,.int .i64 p,.slice ea env.length ec] A.v (EP cb A.v κ S N env ns p)from fun A=>jsD (r1.o.on A.h) (by have:=HN.o.sr.keep (Fr.of (S:=SD) A.h);rw[H]at this;exact this) (HE.o.keep (Fr.of (S:=SD) A.h)) p h6 (by omega) (by omega));haveI:=Wd.ne;clear H;refine jum 10 16 (by kernel_rfl) (by kernel_rfl) (by decide) ?_;simp only[TkD]
 iterate 10
  apply jd (by decide) (by rfl)
  .intro A;go_simp;all_goals with_reducible rfl
  simp only[Act.put,SsT]
 refine js ?_;intro A;have r8:=jH A.h;clear f4 f1
 go_upto_region 41 with(go_at_call 94;refine(CE.o A).mono ?_;rintro _ w1 ⟨κ1,a1,c1,y3,x9,rfl,k1,Z,h8,k2⟩;have r5:=jH ((Fr.of (S:=SD) (κ:=κ) r8.o).trans k1);have k7:=jH Z;have r6:=jH h8;have v2:=jH k2;have v0:=jH (Fr.refl SD κ1 w1);have v9:=Z.lt;clear k1 Z h8 k2)
 have C1:=jH (joU (s:=⟨#[116,117,112,108,101]⟩) (k:=5) k7.o (by omega) r6.o (by omega) (by rw[rng_len];omega) rfl)
 go_upto_region 42 with(go_at_call 51;refine C1.o.mono ?_;rintro _ w2 ⟨κ2,rfl,I,h4⟩;have h2:=jH (r5.o.trans I);have r7:=jH h4;have v6:=h4.lt;have r2:=jH (v0.o.trans I);clear I h4)
 have B:=HK.o.keep h2.o;have v3:=B.c5;have v5:=B.lt;have x3:=B.gl;have v7:w2.cell? ⟨gb,off,none⟩=some (.pointer (some ⟨F,0,none⟩)):=B.at' 0 F rfl;have q8:=jH (B.th 0 F _ rfl rfl);have q9:=jH (HE.o.keep h2.o);clear B;have C2:=jH (jrR (b:=S.n+ns.length) (z:=((S.each ns p).n:Nat)) q7.o r9.o r7.o q8.o q9.o (by omega) (by omega) (by rw[Inf.each_n]))
 go_upto_region 43 with(go_at_call 52;refine C2.o.mono ?_;rintro _ w3 ⟨rfl,κ3,R,O⟩;have K:=jH (h2.o.trans R);have r3:=jH O;have v8:=O.lt;have k5:=jH (r2.o.trans R);clear R O)
 have C:=HK.o.keep K.o;have v4:=C.c5;have x1:=C.lt;have x4:=C.gl;have x2:w3.cell? ⟨gb,off+1,none⟩=some (.pointer (some ⟨E,0,none⟩)):=C.at' 1 E rfl;have k9:=jH (C.th 1 E _ rfl rfl);have y0:=jH (HE.o.keep K.o);clear C;have q6:=jH (v2.o.keep k5.o);have C3:=jH (q4.o _ _ _ _ _ _ _ r3.o k9.o q6.o (by rw[Inf.upFrom_len];omega) (by omega))
 go_wp2_with (go_at_call 80;refine C3.o.mono ?_;rintro _ w4 ⟨κ4,rfl,h0,U⟩;have v1:=jH (K.o.trans h0);have q5:=jH U;have x0:=U.lt;have y2:=jH (k5.o.trans h0);clear h0 U)
 go_returns;exact⟨κ4,rfl,v1.o,q5.o.mono (by omega)⟩
set_option maxRecDepth 100000 in
theorem jG9 (O:WD cb g0 a) (K:g0.pos=a.p) (h6:ns.length<=6) (h:DM w κ cb S N) (nd:ND w κ tb ⟨#[102,117,110]⟩ p num nm nv kv ns [g0]) (he:EV w κ (.slice ea env.length ec) env) (hl:env.length+6*(1+0+Inf.sz a)<=9000) (hN:N+16*(1+0+Inf.sz a)<=80000) :
 Calls Tryz.prog 80 #[.pointer (some ⟨cb,0,none⟩),.pointer (some ⟨tb,0,none⟩),.slice ea env.length ec] w (NQ cb κ w ((Inf.dW a (Inf.upFrom S.n ns env) (S.each ns p)).2.put 6 (Inf.rng S.n ns.length ++[(Inf.dW a (Inf.upFrom S.n ns env) (S.each ns p)).1])) (N+16*(1+0+Inf.sz a)) (Inf.dW a (Inf.upFrom S.n ns env) (S.each ns p)).2.n):=by
 have k7:=jH h;have HE:=jH he;have Y:=jH nd;have r9:=jH (Fr.refl SD κ w);have r8:=ja nd.blk 0 rfl;have Z:=jb nd.blk;have v0:=h.lt;obtain⟨gb,off,kc,h2,h0,k1,h7⟩:=nd.k3 (by simp);have HK:=jH h7
 obtain⟨C,k9⟩:∃C,h2=[C]:=by
  match h2,h0 with
  |[C],_=>exact⟨C,rfl⟩
 subst k9;have k4:=jH O;have v5:=jH K;clear h he nd h7 h0 k1 O K
 go_enter Tryz.func80,Tryz.ntmps80
 go_upto_region 45 with fail
 obtain⟨sa,sc,E⟩:=Y.o.sr.slice;have v3:=jH E;have f4:∀A:Wd w.heap.size w,A.v.cell? ⟨tb,4,none⟩=some (.slice sa ns.length sc):=wd_at (by rw[<-E];exact ja Y.o.blk 4 rfl) Z;have f1:∀A:Wd w.heap.size w,A.v.cell? ⟨tb,1,none⟩=some (.int .i64 p):=wd_at (ja Y.o.blk 1 rfl) Z;have CE:=jH (show ∀(A:Wd w.heap.size w),Calls Tryz.prog 94 #[.pointer (some ⟨cb,0,none⟩),.slice sa ns.length sc,.int .i64 p,.slice ea env.length ec] A.v (EP cb A.v κ S N env ns p)from fun A=>jsD (k7.o.on A.h) (by have:=Y.o.sr.keep (Fr.of (S:=SD) A.h);rw[E]at this;exact this) (HE.o.keep (Fr.of (S:=SD) A.h)) p h6 (by omega) (by omega));haveI:=Wd.ne;clear E;refine jum 10 16 (by kernel_rfl) (by kernel_rfl) (by decide) ?_;simp only[TkD]
 iterate 10
  apply jd (by decide) (by rfl)
  .intro A;go_simp;all_goals with_reducible rfl
  simp only[Act.put,SsT]
 refine js ?_;intro A;have q7:=jH A.h;clear f4 f1
 go_upto_region 46 with(go_at_call 94;refine(CE.o A).mono ?_;rintro _ w1 ⟨κ1,a1,c1,v6,v2,rfl,h3,R,h1,h5⟩;have U:=jH ((Fr.of (S:=SD) (κ:=κ) q7.o).trans h3);have h9:=jH R;have q5:=jH h1;have q9:=jH h5;have h8:=jH (Fr.refl SD κ1 w1);have r5:=R.lt;clear h3 R h1 h5)
 have B:=HK.o.keep U.o;have r6:=B.c5;have r3:=B.lt;have r1:=B.gl;have r7:w1.cell? ⟨gb,off,none⟩=some (.pointer (some ⟨C,0,none⟩)):=B.at' 0 C rfl;have k2:=jH (B.th 0 C _ rfl rfl);have v1:=jH (HE.o.keep U.o);clear B;have k5:=jH (q9.o.keep h8.o);have C1:=jH (k4.o _ _ _ _ _ _ _ h9.o k2.o k5.o (by rw[Inf.upFrom_len];omega) (by omega))
 go_upto_region 47 with(go_at_call 80;refine C1.o.mono ?_;rintro _ w2 ⟨κ2,rfl,F,W⟩;have q4:=jH (U.o.trans F);have q6:=jH W;have r2:=W.lt;have h4:=jH (h8.o.trans F);clear F W)
 have C2:=jH (jwJ (b:=(Inf.dW a (Inf.upFrom S.n ns env) (S.each ns p)).1) (z:=((Inf.dW a (Inf.upFrom S.n ns env) (S.each ns p)).1:Nat)) q6.o (by omega) (q5.o.keep h4.o) (by rw[rng_len];omega) rfl)
 go_wp2_with (go_at_call 95;refine C2.o.mono ?_;rintro _ w3 ⟨κ3,rfl,I,H⟩;have q8:=jH (q4.o.trans I);have k8:=jH H;have r4:=H.lt;have v4:=jH (h4.o.trans I);clear I H)
 go_returns;exact⟨κ3,rfl,q8.o,k8.o.mono (by omega)⟩
theorem jwB {b:Nat}{A:List Value}{T:TypeId}(h:w.heap[b]? =some (.cells A.toArray T (0,0))):∀j u,A[j]? =some u->w.cell? ((⟨b,0,none⟩:Addr).add j)=some u:=by
 intro j u C
 have B:(⟨b,0,none⟩:Addr).add j=⟨b,j,none⟩:=by
  unfold Addr.add
  split
  .rename_i h;rw[h]
  .simp
 rw[B];exact ja h j (by simpa using C)
set_option maxRecDepth 100000 in
theorem jGX (q5:WD cb g0 a) (q4:g0.pos=a.p) (r8:WD cb g1 b) (r9:g1.pos=b.p) (h6:ns.length<=5) (h:DM w κ cb S N) (nd:ND w κ tb ⟨#[114,101,99]⟩ p num nm nv kv ns [g0,g1]) (he:EV w κ (.slice ea env.length ec) env) (hl:env.length+6*(1+0+Inf.sz a+Inf.sz b)<=9000) (hN:N+16*(1+0+Inf.sz a+Inf.sz b)<=80000) :
 Calls Tryz.prog 80 #[.pointer (some ⟨cb,0,none⟩),.pointer (some ⟨tb,0,none⟩),.slice ea env.length ec] w (NQ cb κ w (Inf.dW b (Inf.upFrom S.n [nm] env) ((Inf.dW a (Inf.upFrom (S.each [nm] p).n ns (Inf.upFrom S.n [nm] env)) (((((S.each [nm] p).each ns p).put 0 []).put 6 (Inf.rng (S.each [nm] p).n ns.length ++[((S.each [nm] p).each ns p).n])).dem S.n (((S.each [nm] p).each ns p).put 0 []).n p)).2.dem (Inf.dW a (Inf.upFrom (S.each [nm] p).n ns (Inf.upFrom S.n [nm] env)) (((((S.each [nm] p).each ns p).put 0 []).put 6 (Inf.rng (S.each [nm] p).n ns.length ++[((S.each [nm] p).each ns p).n])).dem S.n (((S.each [nm] p).each ns p).put 0 []).n p)).1 ((S.each [nm] p).each ns p).n a.p)).2 (N+16*(1+0+Inf.sz a+Inf.sz b)) (Inf.dW b (Inf.upFrom S.n [nm] env) ((Inf.dW a (Inf.upFrom (S.each [nm] p).n ns (Inf.upFrom S.n [nm] env)) (((((S.each [nm] p).each ns p).put 0 []).put 6 (Inf.rng (S.each [nm] p).n ns.length ++[((S.each [nm] p).each ns p).n])).dem S.n (((S.each [nm] p).each ns p).put 0 []).n p)).2.dem (Inf.dW a (Inf.upFrom (S.each [nm] p).n ns (Inf.upFrom S.n [nm] env)) (((((S.each [nm] p).each ns p).put 0 []).put 6 (Inf.rng (S.each [nm] p).n ns.length ++[((S.each [nm] p).each ns p).n])).dem S.n (((S.each [nm] p).each ns p).put 0 []).n p)).1 ((S.each [nm] p).each ns p).n a.p)).1):=by
 obtain⟨i0,N4,z2,R1,K4⟩:=info_parts Tryz.kiD;have y3:=jH h;have HE:=jH he;have HN:=jH nd;have HF0:=jH (Fr.refl SD κ w);have c00:=ja nd.blk 0 rfl;have x5:=jb nd.blk;have hlb:=h.lt;obtain⟨gb,off,kc,y1,v4,z4,y7⟩:=nd.k3 (by simp);have HK:=jH y7
 obtain⟨U,R,H6⟩:∃U R,y1=[U,R]:=by
  match y1,v4 with
  |[U,R],_=>exact⟨U,R,rfl⟩
 subst H6;have K7:=jH q5;have R0:=jH q4;have K2:=jH r8;have HG1:=jH r9;clear h he nd y7 v4 z4 q5 q4 r8 r9
 go_enter Tryz.func80,Tryz.ntmps80
 go_upto_region 49 with fail
 have f3:∀A:Wd w.heap.size w,A.v.cell? ⟨tb,3,none⟩=some (.string nm):=wd_at (ja HN.o.blk 3 rfl) x5;have f1:∀A:Wd w.heap.size w,A.v.cell? ⟨tb,1,none⟩=some (.int .i64 p):=wd_at (ja HN.o.blk 1 rfl) x5;have z1:=jH y3.o.top;have CE:=jH (show ∀(A:Wd w.heap.size w) (bq:Nat),w.heap.size<=bq->A.v.heap[bq]? =some (.cells #[.string nm] 9 (0,0))->Calls Tryz.prog 94 #[.pointer (some ⟨cb,0,none⟩),.slice (some ⟨bq,0,none⟩) 1 1,.int .i64 p,.slice ea env.length ec] A.v (EP cb A.v κ S N env [nm] p)from fun A bq h0 K=>jsD (y3.o.on A.h) (jxN (z1.o bq h0) K) (HE.o.keep (Fr.of (S:=SD) A.h)) p (by simp) (by omega) (by omega));haveI:=Wd.ne;refine jwV 11 5 293 (fun b=>.slice (some ⟨b,0,none⟩) 1 1) (.cells #[.string nm] 9 (0,0)) _ (by kernel_rfl) (by kernel_rfl) (by kernel_rfl) (by decide) rfl rfl rfl ?_;simp only[TkD]
 iterate 5
  apply jd (by decide) (by rfl)
  .intro A;go_simp;all_goals with_reducible rfl
  simp only[Act.put,SsT]
 refine Jh (by decide) (fun w=>by kernel_rfl) ?_
 iterate 5
  apply jd (by decide) (by rfl)
  .intro A;go_simp;all_goals with_reducible rfl
  simp only[Act.put,SsT]
 refine js ?_;intro bq A h0 K;have z5:=jH h0;have x0:=jH K;have N7:=jH A.h;clear h0 K f3 f1
 go_upto_region 50 with(go_at_call 94;refine(CE.o A bq z5.o x0.o).mono ?_;rintro _ w1 ⟨κ1,a1,c1,R3,H3,rfl,y2,q7,x9,y4⟩;have v7:=jH ((Fr.of (S:=SD) (κ:=κ) N7.o).trans y2);have K1:=jH q7;have v8:=jH x9;have x2:=jH y4;have HZ1:=jH (Fr.refl SD κ1 w1);have Y7:=q7.lt;clear y2 q7 x9 y4)
 obtain⟨tg,x3,h3,_,Y,H⟩:=KT.first (x:=S.n) (xs:=[]) v8.o;subst h3;have N1:=jH Y;clear Y H;have Z:=HN.o.keep v7.o;have H2:=jH Z;obtain⟨sa,sc,r5⟩:=Z.sr.slice;have x4:=jb Z.blk;have f4:∀A:Wd w1.heap.size w1,A.v.cell? ⟨tb,4,none⟩=some (.slice sa ns.length sc):=wd_at (by rw[<-r5];exact ja Z.blk 4 rfl) x4;have f1:∀A:Wd w1.heap.size w1,A.v.cell? ⟨tb,1,none⟩=some (.int .i64 p):=wd_at (ja Z.blk 1 rfl) x4;have N0:=jH (show ∀(A:Wd w1.heap.size w1),Calls Tryz.prog 94 #[.pointer (some ⟨cb,0,none⟩),.slice sa ns.length sc,.int .i64 p,.slice R3 (env.length+[nm].length) H3] A.v (EP cb A.v κ1 (S.each [nm] p) (N+[nm].length) (Inf.upFrom S.n [nm] env) ns p)from fun A=>jsD (K1.o.on A.h) (by have:=H2.o.sr.keep (Fr.of (S:=SD) A.h);rw[r5]at this;exact this) (x2.o.keep (Fr.of (S:=SD) A.h)) p (by omega) (by simp only[Yk,List.length_nil];omega) (by rw[Inf.upFrom_len];simp only[Yk,List.length_nil];omega));clear r5 Z;refine jum 10 16 (by kernel_rfl) (by kernel_rfl) (by decide) ?_;simp only[TkD]
 iterate 10
  apply jd (by decide) (by rfl)
  .intro A;go_simp;all_goals with_reducible rfl
  simp only[Act.put,SsT]
 refine js ?_;intro A;have h4:=jH A.h;clear f4 f1
 go_upto_region 51 with(go_at_call 94;refine(N0.o A).mono ?_;rintro _ w2 ⟨κ2,a2,c2',ea2,ec2,rfl,k4,q9,y5,y8⟩;have H7:=jH (v7.o.trans ((Fr.of (S:=SD) (κ:=κ1) h4.o).trans k4));have H4:=jH ((Fr.of (S:=SD) (κ:=κ1) h4.o).trans k4);have H8:=jH q9;have R2:=jH y5;have K5:=jH y8;have h4:=jH (Fr.refl SD κ2 w2);have R5:=q9.lt;clear k4 q9 y5 y8)
 have C2:=jH (jsm H8.o (by simp only[Yk,List.length_nil];omega))
 go_upto_region 52 with(go_at_call 93;refine C2.o.mono ?_;rintro _ w3 ⟨κ3,rfl,h9,k9⟩;have K0:=jH (H7.o.trans h9);have r7:=jH k9;have Y0:=k9.lt;have N9:=jH (H4.o.trans h9);have v9:=jH (h4.o.trans h9);clear h9 k9)
 have C3:=jH (jwJ (b:=((S.each [nm] p).each ns p).n) (z:=(((S.each [nm] p).each ns p).n:Nat)) r7.o (by simp only[Yk,List.length_nil];omega) (R2.o.keep v9.o) (by rw[rng_len];omega) rfl)
 go_upto_region 53 with(go_at_call 95;refine C3.o.mono ?_;rintro _ W ⟨κ4,rfl,k1,r4⟩;have v3:=jH (K0.o.trans k1);have z6:=jH r4;have Y1:=r4.lt;have r2:=jH (N9.o.trans k1);have N2:=jH (v9.o.trans k1);clear k1 r4)
 have H:W.cell? ⟨tg,x3,none⟩=some (.int .i64 (S.n:Nat)):=by
  obtain⟨tg',Y2,h3,_,Y,H⟩:=KT.first (x:=S.n) (xs:=[]) (v8.o.keep r2.o);injection h3 with h3
  injection h3 with e1 e2 _
  subst e1;subst e2;exact H
 have Y:tg<W.heap.size:=Yj N1.o r2.o.low.size;have v01:(0:Int)<1:=by omega
 have v5:W.cell? ⟨tb,1,none⟩=some (.int .i64 p):=ja (HN.o.keep v3.o).blk 1 rfl;have x7:=jb (HN.o.keep v3.o).blk;obtain⟨tv1,av1,nv1,ds1,B,q1,q2,q3⟩:=z6.o
 obtain⟨S3,r3⟩:∃S3,((((S.each [nm] p).each ns p).put 0 []).put 6 (Inf.rng (S.each [nm] p).n ns.length ++[((S.each [nm] p).each ns p).n]))=S3:=⟨_,rfl⟩
 rw[r3]at B q1 q2 q3;obtain⟨aa,ac,h1,y9⟩:=B.ar.any;clear y9
 obtain⟨m,hm⟩:∃m,S3.D.length=m:=⟨_,rfl⟩
 rw[hm]at h1 q2;simp only[Yk,List.length_nil]at q1 q2 q3;have x8:W.cell? ⟨cb,1,none⟩=some (.slice aa m ac):=by rw[<-h1];exact ja B.blk 1 rfl
 have x6:=B.lt;have hr:W.ownsRow 0 82 4 (.slice aa m ac) m (S3.D.flatMap dmC):=by have:=B.ar.own;rw[hm,h1]at this;exact this
 have HR:=jH hr;have q8:=jH h1;have HM:=jH hm;have HC:=jH B;have x0:=jH B.blk;have HV:=jH (show ∀b,(Value.slice aa m ac).ownBlock=some b->b≠cb from fun b hb e=>by rw[<-h1]at hb;have:=B.ar.tag b hb;rw[e,B.tg]at this;cases this);have hm9:m<90000:=by omega
 have r7:=jH r3;clear B hr h1 hm r3
 obtain⟨db,v1⟩:∃db,(((S.each [nm] p).each ns p).put 0 []).n=db:=⟨_,rfl⟩
 rw[v1]
 obtain⟨da,r6⟩:∃da,S.n=da:=⟨_,rfl⟩
 rw[r6]at H;have K9:=jH v1;have K6:=jH r6;clear v1 r6;have gA:∀A:Wd W.heap.size W,A.v.cell? ⟨cb,1,none⟩=some (.slice aa m ac):=wd_at x8 x6;have gP:∀A:Wd W.heap.size W,A.v.cell? ⟨tb,1,none⟩=some (.int .i64 p):=wd_at v5 x7;have gF:∀A:Wd W.heap.size W,A.v.cell? ⟨tg,x3,none⟩=some (.int .i64 (da:Nat)):=wd_at H Y;haveI:=Wd.ne;refine jun 15 14 336 (fun b=>.slice (some ⟨b,0,none⟩) 1 1) (.cells #[.int .i64 (da:Nat),.int .i64 (db:Nat),.int .i64 p,.int .i64 0] 82 (0,0)) _ _ (.pointer (some ⟨cb,0,none⟩)) (by kernel_rfl) (by kernel_rfl) (by kernel_rfl) (by decide) (by decide) rfl rfl rfl rfl (fun _ _ _ h=>h) (Or.inl ⟨by rfl,?_⟩) ?_
 .intro w;go_simp;all_goals with_reducible rfl
 simp only[Act.put,TkD,SsT]
 iterate 13
  apply jd (by decide) (by rfl)
  .intro A;go_simp;all_goals with_reducible rfl
  simp only[Act.put,SsT]
 refine Jh (by decide) (fun w=>by kernel_rfl) ?_;refine js ?_;intro bq A h0 K;simp only[Act.put,SsT];have z8:=jH A.h;have k5:=jH (HC.o.on A.h);have H9:=jH (show A.v.ownsRow 0 82 4 (.slice aa m ac) m (S3.D.flatMap dmC)from by have:=k5.o.ar.own;rw[HM.o,q8.o]at this;exact this);refine wpList_append_lies _ (by rfl) (.tmp 326) (.tmp 336) 54 (by rfl) 0 82 i0 _ 4 32 Tryz.kuD N4 z2 R1 K4 rfl (by decide) (.slice aa m ac) m (S3.D.flatMap dmC) (by kernel_rfl) H9.o ⟨bq,0,none⟩ 1 1 [.int .i64 (da:Nat),.int .i64 (db:Nat),.int .i64 p,.int .i64 0] (by kernel_rfl) (by rfl) (jwB K) (by intro u hu;simp at hu;rcases hu with rfl|rfl|rfl|rfl <;> rfl) (by decide) (by unfold maxLen;omega) (by omega) (by simp) _ rfl ?_;intro g c w9 h5 I v2 z0;have h2:=(I.block cb k5.o.lt (fun e=>HV.o cb e.symm rfl)).trans k5.o.blk;have d3:=ja h2 1 rfl;have e3:=je h2 1;have K8:=jb h2;obtain⟨κ5,O,F⟩:=jsE (d:=⟨da,db,p,false⟩) (S':=(Inf.DS.dem S3 da db p)) HC.o HM.o z8.o rfl rfl rfl h5 (by rw[q8.o];exact I) (by rw[q8.o];exact v2.imp id (fun e=>e));have y0:=jH O;have y6:=jH F;clear h5 I v2 h2 z0 O F K h0 v5 x8 x7 x6 gA gP gF;simp only[Act.put,SsT]
 go_upto_region 54 with fail
 clear d3 e3 K8;have O:=y0.o;have F:=y6.o;clear y0 y6;generalize hW:World.setCell w9 ⟨cb,1,none⟩ (Value.slice (some ⟨g,0,none⟩) (m+1) c)=w5 at O F ⊢;clear hW;have N8:=jH (show DM w5 κ5 cb (Inf.DS.dem S3 da db p) (N+1+ns.length+1+1+1)from⟨_,_,_,_,O,by exact Ym q1 (by omega),by show(S3.D ++[_]).length<=_;rw[Yg,HM.o];show m+1<=_;omega,by exact Ym q3 (by omega)⟩);have Y5:=O.lt;have q6:=jH (v3.o.trans F);have x1:=jH F;clear O F;have N5:=jH (r2.o.trans x1.o);have z9:=jH (N2.o.trans x1.o);clear H Y;have C:=HK.o.keep q6.o;have R9:=C.c5;have Y9:=C.lt;have R6:=C.gl;have Y8:w5.cell? ⟨gb,off,none⟩=some (.pointer (some ⟨U,0,none⟩)):=C.at' 0 U rfl;have N3:=jH (C.th 0 U _ rfl rfl);have HE5:=jH (HE.o.keep q6.o);clear C;have C5:=jH (jrR (b:=((S.each [nm] p).each ns p).n) (z:=(((S.each [nm] p).each ns p).n:Nat)) K7.o R0.o N8.o N3.o (K5.o.keep z9.o) (by rw[Inf.upFrom_len,Inf.upFrom_len];simp only[Yk,List.length_nil];omega) (by omega) rfl)
 go_upto_region 55 with(go_at_call 52;refine C5.o.mono ?_;rintro _ w6 ⟨rfl,κ6,v0,k7⟩;have k2:=jH (q6.o.trans v0);have z7:=jH k7;have R8:=k7.lt;have v6:=jH (N5.o.trans v0);clear v0 k7)
 have E:=HK.o.keep k2.o;have R7:=E.c5;have Y4:=E.lt;have R4:=E.gl;have Y6:w6.cell? ⟨gb,off+1,none⟩=some (.pointer (some ⟨R,0,none⟩)):=E.at' 1 R rfl;have H1:=jH (E.th 1 R _ rfl rfl);have HE6:=jH (HE.o.keep k2.o);clear E;have N6:=jH (x2.o.keep v6.o);have C6:=jH (K2.o _ _ _ _ _ _ _ z7.o H1.o N6.o (by rw[Inf.upFrom_len];simp only[Yk,List.length_nil];omega) (by omega))
 go_wp2_with (go_at_call 80;refine C6.o.mono ?_;rintro _ w7 ⟨κ7,rfl,r1,k8⟩;have z3:=jH (k2.o.trans r1);have H0:=jH k8;have Y3:=k8.lt;have HZ7:=jH (v6.o.trans r1);clear r1 k8)
 go_returns;have h8:=r7.o;subst h8;have h7:=K9.o;subst h7;have H5:=K6.o;subst H5;exact⟨κ7,rfl,z3.o,H0.o.mono (by omega)⟩
end Dm
namespace Inf
theorem szd_snoc (x:X):∀(l:List X),szs (l ++[x])=szs l+sz x
 |[]=>by rw[Yx,szs,szs,szs];omega
 |y ::l=>by rw[Ka,szs,szd_snoc x l,szs];omega
theorem szd_take:∀(l:List X) (j:Nat),szs (l.take j)<=szs l
 |[],j=>by simp
 |y ::l,0=>by rw[List.take_zero,szs];exact Yi _
 |y ::l,j+1=>by rw[List.take_succ_cons,szs,szs];have:=szd_take l j;omega
theorem takeX {l:List X}{j:Nat}{x:X}(h:l[j]? =some x):l.take (j+1)=l.take j ++[x]:=by
 have A:=(jG h).1;have e:=(jG h).2;rw[Uc A,e]
theorem dWs_snoc (x:X) (env:Env):∀(l:List X) (S:DS),dWs (l ++[x]) env S=((dWs l env S).1 ++[(dW x env (dWs l env S).2).1],(dW x env (dWs l env S).2).2)
 |[],S=>by simp only[Yx,dWs]
 |y ::l,S=>by rw[Ka,dWs,dWs_snoc x env l,dWs];rfl
theorem dWs_len (env:Env):∀(l:List X) (S:DS),(dWs l env S).1.length=l.length
 |[],S=>by rw[dWs];rfl
 |y ::l,S=>by rw[dWs];show(dWs l env _).1.length+1=_;rw[dWs_len env l];rfl
end Inf
namespace Dm
open Go.RowKit Tg
structure TI (cb:Nat) (w:World) (κ:Kp) (S:Inf.DS) (N:Nat) (env:Inf.Env) (l:List Inf.X) (j:Nat) (tv:Value) (wr:World) (κj:Kp):Prop where
 dm:DM wr κj cb (Inf.dWs (l.take j) env S).2 (N+16*Inf.szs (l.take j))
 tr:TR wr κj (5,w.heap.size) 3 1 tv j (nV' (Inf.dWs (l.take j) env S).1)
 fr:Fr (SE w.heap.size) κ κj w wr
set_option maxRecDepth 100000 in
theorem jGV {w:World}{κ:Kp}{cb tb:Nat}{S:Inf.DS}{N:Nat}{p num:Int}{nm:ByteArray}{nv kv:Value}{ea:Option Addr}{ec:Nat}{env:Inf.Env}{gs:List G}{l:List Inf.X}(h1:gs.length=l.length) (K:∀(j:Nat) (g:G) (x:Inf.X),gs[j]? =some g->l[j]? =some x->WD cb g x) (hm:2<=gs.length/\gs.length<=6) (h:DM w κ cb S N) (nd:ND w κ tb ⟨#[116,117,112,108,101]⟩ p num nm nv kv [] gs) (he:EV w κ (.slice ea env.length ec) env) (hl:env.length+6*(1+Inf.szs l)<=9000) (hN:N+16*(1+Inf.szs l)<=80000) :
 Calls Tryz.prog 80 #[.pointer (some ⟨cb,0,none⟩),.pointer (some ⟨tb,0,none⟩),.slice ea env.length ec] w (NQ cb κ w ((Inf.dWs l env S).2.put 5 (Inf.dWs l env S).1) (N+16*(1+Inf.szs l)) (Inf.dWs l env S).2.n):=by
 obtain⟨i0,r6,k8,v0,q8⟩:=info_parts Tryz.kiI;obtain⟨gb,off,kc,r1,h4,q5,h7⟩:=nd.k3 (by omega);have HK:=jH h7;have k9:=jH h4;have HE:=jH he;have k7:=jH K;have v2:=ja nd.blk 0 rfl;have v3:=jb nd.blk;have v5:=h.lt;have H0:=jH (show TI cb w κ S N env l 0 (.slice none 0 0) w κ from⟨by rw[List.take_zero,Inf.dWs,Inf.szs];exact h,by rw[List.take_zero,Inf.dWs];exact TR.nil _ _ _ _ _,Fr.refl _ _ _⟩);have r8:=jH (show ∀b,κ b≠some (5,w.heap.size)from fun b hb=>by obtain⟨tv,av,nv,ds,hc,_⟩:=h;have:=hc.n5 b _ hb;omega)
 obtain⟨n,hn⟩:∃n,gs.length=n:=⟨_,rfl⟩
 have HN:=jH hn;have O:=jH h1;rw[hn]at hm HK;clear h nd he K h7 h4 q5 hn h1
 go_enter Tryz.func80,Tryz.ntmps80
 go_wp2_with fail
 go_loopg [30,31,32] n (fun gh s30 s31 s32 (wr:World)=>∃(j:Nat) (κj:Kp),j<=n/\gh=n-j/\s31= .int .i64 (j:Nat)/\TI cb w κ S N env l j s30 wr κj)
 case atStart=>exact⟨0,κ,by omega,rfl,rfl,H0.o⟩
 case round=>
  obtain⟨j,κj,hj,x2,rfl,E⟩:=hrel;obtain⟨h5,h8,k5,k1⟩:=E.tr.any;clear k1;subst k5;have B:=jH E;have x0:=E.dm.lt;have v7:=E.fr.low.size;have k3:=HK.o.keep E.fr;have c5:=k3.c5;have x1:=k3.lt;have v9:=k3.gl;have h6:=jH k3;clear E k3
  by_cases v8:j<n
  .have u1:(j:Int)<(n:Int):=by omega
   have k2:=k9.o;have q6:=HN.o;have k4:=O.o
   obtain⟨g,I⟩:∃g,gs[j]? =some g:=⟨_,Yb (by omega)⟩
   obtain⟨kb,h0⟩:∃kb,r1[j]? =some kb:=⟨_,Yb (by omega)⟩
   obtain⟨x,U⟩:∃x,l[j]? =some x:=⟨_,Yb (by omega)⟩
   have a5:wr.cell? ⟨gb,off+j,none⟩=some (.pointer (some ⟨kb,0,none⟩)):=h6.o.at' j kb h0;have A:=Inf.takeX U;have x3:Inf.szs (l.take j)+Inf.sz x<=Inf.szs l:=by have:=Inf.szd_take l (j+1);rw[A,Inf.szd_snoc]at this;exact this
   have CW:=jH (k7.o j g x I U _ _ _ _ _ _ _ B.o.dm (h6.o.th j kb g h0 I) (HE.o.keep B.o.fr) (by omega) (by omega));have r3:=jH A
   obtain⟨Rj,h3⟩:∃Rj,Inf.dWs (l.take j) env S=Rj:=⟨_,rfl⟩
   have q9:=jH h3;rw[h3]at CW;clear k2 q6 k4 I h0 U A h3
   go_upto_region 74 with(go_at_call 80;refine CW.o.mono ?_;rintro _ w1 ⟨κ1,rfl,F,Y⟩;have r9:=jH F;have q7:=jH Y;have v1:=Y.lt;have v4:=F.low.size;have h2:=jH (B.o.tr.keep F (by rintro (e|e|e|e) <;> cases e));have r4:=jH h2.o.own;clear F Y)
   obtain⟨R,hR⟩:∃R,(Inf.dW x env Rj.2).1=R:=⟨_,rfl⟩
   rw[hR];have HR:=jH hR;clear hR
   go_wp2_with (at_builtin;refine JO _ rfl (.tmp 437) (.tmp 439) 56 rfl 0 3 i0 _ 1 8 Tryz.kuI r6 k8 v0 q8 rfl (by decide) (.slice h5 j h8) j (nV' (Inf.dWs (l.take j) env S).1) (by kernel_rfl) (r4.o.alloc _) ⟨w1.heap.size,0,none⟩ 1 1 [.int .i64 (R:Nat)] (by kernel_rfl) rfl (Ja _ _ _ _ rfl) ?_ ?_ ?_ ?_ ?_;(intro u hu;simp at hu;subst hu;rfl);(unfold maxLen;omega);omega;(exact Yi _);intro v6 w6 H C Z;have HP:=jH (ju5 (w2:=w6) h2.o H C Z);have r2:=C.size;clear H C Z)
   go_roundg (n-(j+1))
   case measure=>omega
   case rel=>
    obtain⟨κ6,t6,f6,p6,n6⟩:=HP.o;rw[Ya]at r2;have A:=r3.o;have e1:=q9.o;have e2:=HR.o;refine⟨j+1,κ6,by omega,rfl,by go_num,⟨?_,?_,?_⟩⟩
    .rw[A,Inf.dWs_snoc,Inf.szd_snoc,e1]
     exact(q7.o.mono (by omega)).row f6 p6 n6 (by omega)
    .rw[A,Inf.dWs_snoc,e1,e2]
     rw[e1]at t6;exact t6
    .exact(B.o.fr.trans (r9.o.mono (fun t e=>.inl e))).trans (f6.mono (fun t e=>.inr e))
  .have hjn:j=n:=by omega
   subst hjn;have A:l.take j=l:=Yw (by have:=O.o;have:=HN.o;omega);have hd:=B.o.dm;have ht:=B.o.tr;rw[A]at hd ht;have W:(Inf.dWs l env S).1.length=j:=by rw[Inf.dWs_len];have:=O.o;have:=HN.o;omega
   have h9:KT wr (un5 w.heap.size κj) (.slice h5 j h8) (Inf.dWs l env S).1:=KT.of_tr (by rw[W];exact ht);have C9:=jH (joU (s:=⟨#[116,117,112,108,101]⟩) (k:=5) (hd.untag w.heap.size) (by omega) h9 (by omega) (by omega) rfl);have r7:=jH (Fr.untag B.o.fr r8.o);clear hd ht h9 A W
   go_wp2_with (go_at_call 51;refine C9.o.mono ?_;rintro _ w9 ⟨κ9,rfl,q4,r5⟩)
   go_returns;exact⟨κ9,rfl,r7.o.trans q4,r5.mono (by omega)⟩
end Dm
namespace Dm
open Go.RowKit Tg
set_option maxRecDepth 100000 in
theorem jHb {w:World}{κ:Kp}{cb tb:Nat}{S:Inf.DS}{N:Nat}{p num:Int}{nm:ByteArray}{nv kv:Value}{ea:Option Addr}{ec:Nat}{env:Inf.Env}{g0:G}{B:Inf.X}{gs:List G}{l:List Inf.X}(k7:WD cb g0 B) (q5:gs.length=l.length) (r5:∀(j:Nat) (g:G) (x:Inf.X),gs[j]? =some g->l[j]? =some x->WD cb g x) (hm:gs.length<=5) (h:DM w κ cb S N) (nd:ND w κ tb ⟨#[99,97,108,108]⟩ p num nm nv kv [] (g0 ::gs)) (he:EV w κ (.slice ea env.length ec) env) (hl:env.length+6*(1+(Inf.sz B+Inf.szs l))<=9000) (hN:N+16*(1+(Inf.sz B+Inf.szs l))<=80000) :
 Calls Tryz.prog 80 #[.pointer (some ⟨cb,0,none⟩),.pointer (some ⟨tb,0,none⟩),.slice ea env.length ec] w (NQ cb κ w ((((Inf.dWs l env (Inf.dW B env S).2).2.put 0 []).put 6 ((Inf.dWs l env (Inf.dW B env S).2).1 ++[(Inf.dWs l env (Inf.dW B env S).2).2.n])).dem (Inf.dW B env S).1 ((Inf.dWs l env (Inf.dW B env S).2).2.n+1) p) (N+16*(1+(Inf.sz B+Inf.szs l))) (Inf.dWs l env (Inf.dW B env S).2).2.n):=by
 obtain⟨j0,K1,K8,H7,N3⟩:=info_parts Tryz.kiI;obtain⟨i0,K9,z0,N5,H9⟩:=info_parts Tryz.kiD;obtain⟨gb,off,kc,x6,h6,z2,Y⟩:=nd.k3 (by simp);have HK:=jH Y;have z1:=jH h6;have HE:=jH he;have HN:=jH nd;have H6:=jH r5;have Y4:=ja nd.blk 0 rfl;have Y5:=jb nd.blk;have R4:=h.lt;have x2:=Y.c5;have R6:=Y.gl
 obtain⟨r4,h1⟩:∃kb,x6[0]? =some kb:=⟨_,Yb (by rw[h6];simp)⟩
 have N4:w.cell? ⟨gb,off,none⟩=some (.pointer (some ⟨r4,0,none⟩)):=Y.at' 0 r4 h1;have C0:=jH (k7 _ _ _ _ _ _ _ h (Y.th 0 r4 g0 h1 rfl) he (by omega) (by omega))
 obtain⟨C,x8⟩:∃C,Inf.dW B env S=C:=⟨_,rfl⟩
 rw[x8]at C0 ⊢
 obtain⟨n,hn⟩:∃n,gs.length=n:=⟨_,rfl⟩
 have q9:=jH hn;have k4:=jH q5;have x9:(g0 ::gs).length=n+1:=by rw[Yk,hn]
 rw[x9]at HK x2;rw[hn]at hm;clear h nd he r5 Y h6 z2 hn q5 k7 h1 x8 x9
 go_enter Tryz.func80,Tryz.ntmps80
 go_upto_region 58 with(go_at_call 80;refine C0.o.mono ?_;rintro _ w1 ⟨κ1,rfl,r6,k8⟩;have q6:=jH r6;have v9:=jH k8;have R2:=k8.lt;have R1:=r6.low.size;clear r6 k8)
 have H0:=jH (show TI cb w1 κ1 C.2 (N+16*Inf.sz B) env l 0 (.slice none 0 0) w1 κ1 from⟨by rw[List.take_zero,Inf.dWs,Inf.szs];exact v9.o,by rw[List.take_zero,Inf.dWs];exact TR.nil _ _ _ _ _,Fr.refl _ _ _⟩);have N2:=jH (show ∀b,κ1 b≠some (5,w1.heap.size)from fun b hb=>by obtain⟨tv,av,nv,ds,hc,_⟩:=v9.o;have:=hc.n5 b _ hb;omega);have H2:=jH (HK.o.keep q6.o);have N0:=jH (HE.o.keep q6.o);clear x2 N4
 go_wp2_with fail
 go_loopg [25,26,27] n (fun gh s25 s26 s27 (wr:World)=>∃(j:Nat) (κj:Kp),j<=n/\gh=n-j/\s26= .int .i64 ((j:Nat)+1)/\TI cb w1 κ1 C.2 (N+16*Inf.sz B) env l j s25 wr κj)
 case atStart=>exact⟨0,κ1,by omega,rfl,rfl,H0.o⟩
 case round=>
  obtain⟨j,κj,hj,R8,rfl,U⟩:=hrel;obtain⟨v4,v8,y9,y6⟩:=U.tr.any;clear y6;subst y9;have O:=jH U;have Y9:=U.dm.lt;have Y6:=U.fr.low.size;have k3:=H2.o.keep U.fr;have c5:=k3.c5;have hl5:=k3.lt;have Y8:=k3.gl;have x7:=jH k3;clear U k3
  by_cases R5:j<n
  .have u1:((j:Int)+1)<((n+1:Nat):Int):=by omega
   have h9:=z1.o;have z3:=q9.o;have y7:=k4.o
   obtain⟨g,r3⟩:∃g,gs[j]? =some g:=⟨_,Yb (by omega)⟩
   obtain⟨kb,k9⟩:∃kb,x6[j+1]? =some kb:=⟨_,Yb (by rw[h9,Yk];omega)⟩
   obtain⟨x,k5⟩:∃x,l[j]? =some x:=⟨_,Yb (by omega)⟩
   have a5:wr.cell? ⟨gb,off+(j+1),none⟩=some (.pointer (some ⟨kb,0,none⟩)):=x7.o.at' (j+1) kb k9;have E:=Inf.takeX k5;have Y0:Inf.szs (l.take j)+Inf.sz x<=Inf.szs l:=by have:=Inf.szd_take l (j+1);rw[E,Inf.szd_snoc]at this;exact this
   have CW:=jH (H6.o j g x r3 k5 _ _ _ _ _ _ _ O.o.dm (x7.o.th (j+1) kb g k9 (by rw[List.getElem?_cons_succ];exact r3)) (N0.o.keep O.o.fr) (by omega) (by omega));have z6:=jH E
   obtain⟨Rj,r1⟩:∃Rj,Inf.dWs (l.take j) env C.2=Rj:=⟨_,rfl⟩
   have z5:=jH r1;rw[r1]at CW;have un:((j:Int)+1).toNat=j+1:=by omega
   clear h9 z3 y7 r3 k9 k5 E r1
   go_upto_region 63 with(go_at_call 80;refine CW.o.mono ?_;rintro _ w2 ⟨κ2,rfl,h2,q8⟩;have q4:=jH h2;have H8:=jH q8;have N6:=q8.lt;have Y2:=h2.low.size;have k1:=jH (O.o.tr.keep h2 (by rintro (e|e|e|e) <;> cases e));have H1:=jH k1.o.own;clear h2 q8)
   obtain⟨R,hR⟩:∃R,(Inf.dW x env Rj.2).1=R:=⟨_,rfl⟩
   rw[hR];have HR:=jH hR;clear hR
   go_wp2_with (at_builtin;refine JO _ rfl (.tmp 389) (.tmp 391) 56 rfl 0 3 j0 _ 1 8 Tryz.kuI K1 K8 H7 N3 rfl (by decide) (.slice v4 j v8) j (nV' (Inf.dWs (l.take j) env C.2).1) (by kernel_rfl) (H1.o.alloc _) ⟨w2.heap.size,0,none⟩ 1 1 [.int .i64 (R:Nat)] (by kernel_rfl) rfl (Ja _ _ _ _ rfl) ?_ ?_ ?_ ?_ ?_;(intro u hu;simp at hu;subst hu;rfl);(unfold maxLen;omega);omega;(exact Yi _);intro v6 w6 h3 I v0;have HP:=jH (ju5 (w2:=w6) k1.o h3 I v0);have K2:=I.size;clear h3 I v0)
   go_roundg (n-(j+1))
   case measure=>omega
   case rel=>
    obtain⟨κ6,t6,f6,p6,n6⟩:=HP.o;rw[Ya]at K2;have E:=z6.o;have e1:=z5.o;have e2:=HR.o;refine⟨j+1,κ6,by omega,rfl,by go_num,⟨?_,?_,?_⟩⟩
    .rw[E,Inf.dWs_snoc,Inf.szd_snoc,e1]
     exact(H8.o.mono (by omega)).row f6 p6 n6 (by omega)
    .rw[E,Inf.dWs_snoc,e1,e2]
     rw[e1]at t6;exact t6
    .exact(O.o.fr.trans (q4.o.mono (fun t e=>.inl e))).trans (f6.mono (fun t e=>.inr e))
  .have hjn:j=n:=by omega
   subst hjn;have u1:¬(((j:Int)+1)<((j+1:Nat):Int)):=by omega
   have E:l.take j=l:=Yw (by have:=k4.o;have:=q9.o;omega);have hd:=O.o.dm;have ht:=O.o.tr;rw[E]at hd ht;have h0:(Inf.dWs l env C.2).1.length=j:=by rw[Inf.dWs_len];have:=k4.o;have:=q9.o;omega
   have H4:=jH (show KT wr (un5 w1.heap.size κj) (.slice v4 j v8) (Inf.dWs l env C.2).1 from KT.of_tr (by rw[h0];exact ht));have K6:=jH h0;have C2:=jH (jsm (hd.untag w1.heap.size) (by omega));have q4:=jH (q6.o.trans (Fr.untag O.o.fr N2.o));clear hd ht E h0
   go_upto_region 65 with(go_at_call 93;refine C2.o.mono ?_;rintro _ w3 ⟨κ3,rfl,r7,k2⟩;have H5:=jH (q4.o.trans r7);have y8:=jH k2;have y3:=jH (H4.o.keep r7);have N7:=k2.lt;clear r7 k2)
   have C3:=jH (jwJ (b:=(Inf.dWs l env C.2).2.n) (z:=((Inf.dWs l env C.2).2.n:Nat)) y8.o (by omega) y3.o (by rw[K6.o];omega) rfl)
   go_upto_region 66 with(go_at_call 95;refine C3.o.mono ?_;rintro _ w4 ⟨κ4,rfl,y0,r8⟩;have v3:=jH (H5.o.trans y0);have z4:=jH r8;have N8:=r8.lt;clear y0 r8)
   have v5:w4.cell? ⟨tb,1,none⟩=some (.int .i64 p):=ja (HN.o.keep v3.o).blk 1 rfl;have x3:=jb (HN.o.keep v3.o).blk;obtain⟨R3,R7,nv1,Y3,A,q1,q2,q3⟩:=z4.o
   obtain⟨S3,r2⟩:∃S3,(((Inf.dWs l env C.2).2.put 0 []).put 6 ((Inf.dWs l env C.2).1 ++[(Inf.dWs l env C.2).2.n]))=S3:=⟨_,rfl⟩
   rw[r2]at A q1 q2 q3;obtain⟨aa,ac,W,y4⟩:=A.ar.any;clear y4
   obtain⟨m,hm⟩:∃m,S3.D.length=m:=⟨_,rfl⟩
   rw[hm]at W q2
   try simp only[Yk,List.length_nil]at q1 q2 q3
   have x4:w4.cell? ⟨cb,1,none⟩=some (.slice aa m ac):=by rw[<-W];exact ja A.blk 1 rfl
   have x1:=A.lt;have hr:w4.ownsRow 0 82 4 (.slice aa m ac) m (S3.D.flatMap dmC):=by have:=A.ar.own;rw[hm,W]at this;exact this
   have HR:=jH hr;have q7:=jH W;have HM:=jH hm;have HC:=jH A;have R9:=jH A.blk;have HV:=jH (show ∀b,(Value.slice aa m ac).ownBlock=some b->b≠cb from fun b hb e=>by rw[<-W]at hb;have:=A.ar.tag b hb;rw[e,A.tg]at this;cases this);have Y7:m<90000:=by omega
   have N1:=jH r2;clear A hr W hm r2
   obtain⟨db,v1⟩:∃db,((Inf.dWs l env C.2).2.put 0 []).n=db:=⟨_,rfl⟩
   rw[v1]
   obtain⟨da,r9⟩:∃da,C.1=da:=⟨_,rfl⟩
   rw[r9];have K5:=jH v1;have K0:=jH r9;clear v1 r9;have gA:∀yy:Wd w4.heap.size w4,yy.v.cell? ⟨cb,1,none⟩=some (.slice aa m ac):=wd_at x4 x1;have gP:∀yy:Wd w4.heap.size w4,yy.v.cell? ⟨tb,1,none⟩=some (.int .i64 p):=wd_at v5 x3;haveI:=Wd.ne;refine jun 13 12 411 (fun b=>.slice (some ⟨b,0,none⟩) 1 1) (.cells #[.int .i64 (da:Nat),.int .i64 (db:Nat),.int .i64 p,.int .i64 0] 82 (0,0)) _ _ (.pointer (some ⟨cb,0,none⟩)) (by kernel_rfl) (by kernel_rfl) (by kernel_rfl) (by decide) (by decide) rfl rfl rfl rfl (fun _ _ _ h=>h) (Or.inl ⟨by rfl,?_⟩) ?_
   .intro w;go_simp;all_goals with_reducible rfl
   simp only[Act.put,TkD,SsT]
   iterate 11
    apply jd (by decide) (by rfl)
    .intro yy;go_simp;all_goals with_reducible rfl
    simp only[Act.put,SsT]
   refine Jh (by decide) (fun w=>by kernel_rfl) ?_;refine js ?_;intro bq yy K7 v7;simp only[Act.put,SsT];have z7:=jH yy.h;have h5:=jH (HC.o.on yy.h);have H3:=jH (show yy.v.ownsRow 0 82 4 (.slice aa m ac) m (S3.D.flatMap dmC)from by have:=h5.o.ar.own;rw[HM.o,q7.o]at this;exact this);refine wpList_append_lies _ (by rfl) (.tmp 403) (.tmp 411) 54 (by rfl) 0 82 i0 _ 4 32 Tryz.kuD K9 z0 N5 H9 rfl (by decide) (.slice aa m ac) m (S3.D.flatMap dmC) (by kernel_rfl) H3.o ⟨bq,0,none⟩ 1 1 [.int .i64 (da:Nat),.int .i64 (db:Nat),.int .i64 p,.int .i64 0] (by kernel_rfl) (by rfl) (jwB v7) (by intro u hu;simp at hu;rcases hu with rfl|rfl|rfl|rfl <;> rfl) (by decide) (by unfold maxLen;omega) (by omega) (by simp) _ rfl ?_;intro g c w9 h4 H v2 y5;have Z:=(H.block cb h5.o.lt (fun e=>HV.o cb e.symm rfl)).trans h5.o.blk;have d3:=ja Z 1 rfl;have e3:=je Z 1;have K4:=jb Z;obtain⟨κ5,K,F⟩:=jsE (d:=⟨da,db,p,false⟩) (S':=(Inf.DS.dem S3 da db p)) HC.o HM.o z7.o rfl rfl rfl h4 (by rw[q7.o];exact H) (by rw[q7.o];exact v2.imp id (fun e=>e));have x5:=jH K;have y1:=jH F;clear h4 H v2 Z y5 K F v7 K7 v5 x4 x3 x1 gA gP;simp only[Act.put,SsT]
   go_upto_region 67 with fail
   clear d3 e3 K4;have K:=x5.o;have F:=y1.o;clear x5 y1;generalize hW:World.setCell w9 ⟨cb,1,none⟩ (Value.slice (some ⟨g,0,none⟩) (m+1) c)=w5 at K F ⊢;clear hW;have y2:=jH (show DM w5 κ5 cb (Inf.DS.dem S3 da db p) (N+16*Inf.sz B+16*Inf.szs l+1+1+1)from⟨_,_,_,_,K,by exact Ym q1 (by omega),by show(S3.D ++[_]).length<=_;rw[Yg,HM.o];show m+1<=_;omega,by exact Ym q3 (by omega)⟩);have N9:=K.lt;have z8:=jH (v3.o.trans F);have Y1:=jH F;clear K F
   go_wp2_with fail
   go_returns;have h8:=N1.o;subst h8;have h7:=K5.o;subst h7;have z9:=K0.o;subst z9;rw[Inf.put_n]at y2;exact⟨κ5,rfl,z8.o,y2.o.mono (by omega)⟩
theorem addr_add (b j:Nat):(⟨b,0,none⟩:Addr).add j=⟨b,j,none⟩:=by
 unfold Addr.add
 split
 .rename_i h;rw[h]
 .simp
theorem EV.at {w:World}{κ:Kp}{B:Option Addr}{E j:Nat}{env:Inf.Env}{e:ByteArray × Nat}(h:EV w κ (.slice B env.length E) env) (A:env[j]? =some e):∃g,B=some ⟨g,0,none⟩/\g<w.heap.size/\w.cell? ⟨g,j*2,none⟩=some (.string e.1)/\w.cell? ⟨g,j*2+1,none⟩=some (.int .i64 (e.2:Nat)):=by
 have I:=(jG A).1;obtain⟨g,cap,F,_,C⟩:=h.1.form (by omega);have H:=h.1.cells (g:=g) (by rw[F];rfl);injection F with h1 h2 h3
 refine⟨g,h1,C,?_,?_⟩
 .have:=H (j*2) _ (JR (f:=evC) (c:=2) (fun _=>rfl) A (k:=0) (by omega))
  rw[addr_add]at this;exact this
 .have:=H (j*2+1) _ (JR (f:=evC) (c:=2) (fun _=>rfl) A (k:=1) (by omega))
  rw[addr_add]at this;exact this
theorem jBR {l:Inf.Env}{j:Nat}{x:ByteArray × Nat}(h:l[j]? =some x):l.take (j+1)=l.take j ++[x]:=by
 have A:=(jG h).1;have e:=(jG h).2;rw[Uc A,e]
theorem jEz {a b:ByteArray}(h:¬a=b):(a.toList == b.toList)=false:=by
 refine Bool.eq_false_iff.2 fun e=>h ?_;have e:=eq_of_beq e;rw[Ye,Ye]at e;obtain⟨⟨x⟩⟩:=a;obtain⟨⟨y⟩⟩:=b;simp at e;rw[e]
def vR (env:Inf.Env) (x:ByteArray) (p:Int) (S:Inf.DS):Nat × Inf.DS:=match Inf.look env x with
 |some t=>(t,S)
 |none=>(S.n,(S.bad p).put 0 [])
set_option maxRecDepth 100000 in
theorem jGT {w:World}{κ:Kp}{cb tb:Nat}{S:Inf.DS}{N:Nat}{p num:Int}{nm:ByteArray}{nv kv:Value}{ea:Option Addr}{ec:Nat}{env:Inf.Env}(h:DM w κ cb S N) (nd:ND w κ tb ⟨#[118,97,114]⟩ p num nm nv kv [] []) (he:EV w κ (.slice ea env.length ec) env) (hl:env.length+6<=9000) (hN:N+16<=80000) :
 Calls Tryz.prog 80 #[.pointer (some ⟨cb,0,none⟩),.pointer (some ⟨tb,0,none⟩),.slice ea env.length ec] w (NQ cb κ w (vR env nm p S).2 (N+16) (vR env nm p S).1):=by
 obtain⟨i0,v7,r6,x3,r9⟩:=info_parts Tryz.kiD;have HE:=jH he;have HN:=jH nd;have q9:=jH h;have x5:=ja nd.blk 0 rfl;have x6:=jb nd.blk;have y0:=h.lt
 obtain⟨n,hn⟩:∃n,env.length=n:=⟨_,rfl⟩
 have h6:=jH hn;rw[hn]at HE hl ⊢;clear h nd he hn
 go_enter Tryz.func80,Tryz.ntmps80
 go_wp2_with fail
 go_loopg [7] n (fun gh s7 (wr:World)=>∃(j:Nat),j<=n/\gh=j/\s7= .int .i64 ((j:Int)-1)/\Below w.heap.size w wr/\Inf.look env nm=Inf.look (env.take j) nm)
 case atStart=>exact⟨n,by omega,rfl,by go_num,jB,by rw[Yw (by rw[h6.o];omega)]⟩
 case round=>
  obtain⟨j,hj,y5,rfl,h0,q7⟩:=hrel;have HB:=jH h0;have q8:=jH q7;have y1:=h0.size;clear h0 q7
  cases j with
  |succ i=>
   have hz:(((i+1:Nat):Int))-1=(i:Int):=by omega
   rw[hz];clear hz;have u1:(0:Int)<=(i:Int):=by omega
   have u2:(i:Int)<(n:Int):=by omega
   obtain⟨⟨y,t⟩,h4⟩:∃e,env[i]? =some e:=⟨_,Yb (by rw[h6.o];omega)⟩
   obtain⟨g,v2,hg,e0,e1⟩:=EV.at (by have:=HE.o.keep (Fr.of (S:=SD) HB.o);rw[<-h6.o]at this;exact this) h4;subst v2;have H:Inf.look env nm=if y=nm then some t else Inf.look (env.take i) nm:=by rw[q8.o,jBR h4,Inf.look_app]
   have k5:=jH (show y=nm->vR env nm p S=(t,S)from fun e=>by rw[if_pos e]at H;unfold vR;rw[H]);have h3:=jH (show ¬y=nm->Inf.look env nm=Inf.look (env.take i) nm from fun e=>by rw[if_neg e]at H;exact H);have h7:=HN.o.keep (Fr.of (S:=SD) HB.o);have v6:=jb h7.blk;have gN:∀A:Wd wr.heap.size wr,A.v.cell? ⟨tb,3,none⟩=some (.string nm):=wd_at (ja h7.blk 3 rfl) v6;have gE:∀A:Wd wr.heap.size wr,A.v.cell? ⟨g,i*2,none⟩=some (.string y):=wd_at e0 hg;have v0:=jH (show ∀A:Wd wr.heap.size wr,A.v.cell? ⟨g,i*2+1,none⟩=some (.int .i64 (t:Nat))from wd_at e1 hg);clear H h7 h4 e0 e1
   go_upto_region 13 with fail
   haveI:=Wd.ne;refine jP 9 10 (by kernel_rfl) (by kernel_rfl) (by decide) ?_;simp only[TkD]
   iterate 9
    apply jd (by decide) (by rfl)
    .intro A;go_simp;all_goals with_reducible rfl
    simp only[Act.put,SsT]
   refine js ?_;intro A;have k1:=jH A.h;have e1:=v0.o A;have x8:g<A.v.heap.size:=Yj hg A.h.size;clear gN gE
   by_cases U:y=nm
   .have k2:=jH (k5.o U)
    have r2:=jH U;clear k5 h3;subst U
    go_wp2_with fail
    go_returns;have hv:=k2.o;rw[hv];exact⟨κ,rfl,(Fr.of HB.o).trans (Fr.of k1.o),((q9.o.on HB.o).on k1.o).mono (by omega)⟩
   .have r2:=jH (h3.o U)
    have x7:(y.toList == nm.toList)=false:=jEz U;clear k5 h3
    go_wp2_with fail
    go_roundg i
    case measure=>omega
    case rel=>exact⟨i,by omega,rfl,by go_num,HB.o.trans (k1.o.mono HB.o.size),r2.o⟩
  |zero=>
   obtain⟨O,v3⟩:∃O,O=wr:=⟨_,rfl⟩
   subst v3;have hz:(((0:Nat):Int))-1= -1:=by omega
   rw[hz];clear hz;have u1:¬((0:Int)<=-1):=by omega
   have h9:=q8.o;rw[List.take_zero,Inf.look]at h9;have hv:vR env nm p S=(S.n,(S.bad p).put 0 []):=by unfold vR;rw[h9]
   have k2:=jH hv;clear h9 hv;have k7:=jH (Fr.of (S:=SD) (κ:=κ) HB.o);have r8:=jH (q9.o.on HB.o)
   go_upto_region 15 with fail
   have q6:O.cell? ⟨tb,1,none⟩=some (.int .i64 p):=ja (HN.o.keep k7.o).blk 1 rfl;have k9:=jb (HN.o.keep k7.o).blk;obtain⟨x9,y3,y4,y8,B,q1,q2,q3⟩:=r8.o
   obtain⟨R,h2⟩:∃R,S=R:=⟨_,rfl⟩
   rw[h2]at B q1 q2 q3;obtain⟨Z,Y,I,r4⟩:=B.ar.any;clear r4
   obtain⟨m,hm⟩:∃m,R.D.length=m:=⟨_,rfl⟩
   rw[hm]at I q2
   try simp only[Yk,List.length_nil]at q1 q2 q3
   have q4:O.cell? ⟨cb,1,none⟩=some (.slice Z m Y):=by rw[<-I];exact ja B.blk 1 rfl
   have k8:=B.lt;have hr:O.ownsRow 0 82 4 (.slice Z m Y) m (R.D.flatMap dmC):=by have:=B.ar.own;rw[hm,I]at this;exact this
   have HR:=jH hr;have h5:=jH I;have HM:=jH hm;have HC:=jH B;have y6:=jH B.blk;have HV:=jH (show ∀b,(Value.slice Z m Y).ownBlock=some b->b≠cb from fun b hb e=>by rw[<-I]at hb;have:=B.ar.tag b hb;rw[e,B.tg]at this;cases this);have y2:m<90000:=by omega
   have v9:=jH h2;clear B hr I hm h2;have gA:∀A:Wd O.heap.size O,A.v.cell? ⟨cb,1,none⟩=some (.slice Z m Y):=wd_at q4 k8;have gP:∀A:Wd O.heap.size O,A.v.cell? ⟨tb,1,none⟩=some (.int .i64 p):=wd_at q6 k9;haveI:=Wd.ne;refine jun 11 10 87 (fun b=>.slice (some ⟨b,0,none⟩) 1 1) (.cells #[.int .i64 0,.int .i64 0,.int .i64 p,.int .i64 6] 82 (0,0)) _ _ (.pointer (some ⟨cb,0,none⟩)) (by kernel_rfl) (by kernel_rfl) (by kernel_rfl) (by decide) (by decide) rfl rfl rfl rfl (fun _ _ _ h=>h) (Or.inl ⟨by rfl,?_⟩) ?_
   .intro w;go_simp;all_goals with_reducible rfl
   simp only[Act.put,TkD,SsT]
   iterate 9
    apply jd (by decide) (by rfl)
    .intro A;go_simp;all_goals with_reducible rfl
    simp only[Act.put,SsT]
   refine Jh (by decide) (fun w=>by kernel_rfl) ?_;refine js ?_;intro bq A v5 r1;simp only[Act.put,SsT];have v4:=jH A.h;have h1:=jH (HC.o.on A.h);have x1:=jH (show A.v.ownsRow 0 82 4 (.slice Z m Y) m (R.D.flatMap dmC)from by have:=h1.o.ar.own;rw[HM.o,h5.o]at this;exact this);refine wpList_append_lies _ (by rfl) (.tmp 81) (.tmp 87) 54 (by rfl) 0 82 i0 _ 4 32 Tryz.kuD v7 r6 x3 r9 rfl (by decide) (.slice Z m Y) m (R.D.flatMap dmC) (by kernel_rfl) x1.o ⟨bq,0,none⟩ 1 1 [.int .i64 0,.int .i64 0,.int .i64 p,.int .i64 6] (by kernel_rfl) (by rfl) (jwB r1) (by intro u hu;simp at hu;rcases hu with rfl|rfl|rfl|rfl <;> rfl) (by decide) (by unfold maxLen;omega) (by omega) (by simp) _ rfl ?_;intro g c w9 W F k4 r5;have K:=(F.block cb h1.o.lt (fun e=>HV.o cb e.symm rfl)).trans h1.o.blk;have d3:=ja K 1 rfl;have e3:=je K 1;have v1:=jb K;obtain⟨κ5,C,E⟩:=jsE (d:=⟨0,0,p,true⟩) (S':=(Inf.DS.bad R p)) HC.o HM.o v4.o rfl rfl rfl W (by rw[h5.o];exact F) (by rw[h5.o];exact k4.imp id (fun e=>e));have q5:=jH C;have r3:=jH E;clear W F k4 K r5 C E r1 v5 q6 q4 k9 k8 gA gP;simp only[Act.put,SsT]
   go_upto_region 16 with fail
   clear d3 e3 v1;have C:=q5.o;have E:=r3.o;clear q5 r3;generalize hW:World.setCell w9 ⟨cb,1,none⟩ (Value.slice (some ⟨g,0,none⟩) (m+1) c)=w5 at C E ⊢;clear hW;have x0:=jH (show DM w5 κ5 cb (Inf.DS.bad R p) (N+1)from⟨_,_,_,_,C,by exact Ym q1 (by omega),by show(R.D ++[_]).length<=_;rw[Yg,HM.o];show m+1<=_;omega,by exact Ym q3 (by omega)⟩);have x4:=C.lt;have v8:=jH (k7.o.trans E);have y7:=jH E;clear C E;have C5:=jH (jsm x0.o (by omega))
   go_wp2_with (go_at_call 93;refine C5.o.mono ?_;rintro _ w6 ⟨κ6,rfl,x2,r7⟩)
   go_returns;have h8:=v9.o;subst h8;have hv:=k2.o;rw[hv];exact⟨κ6,rfl,v8.o.trans x2,r7.mono (by omega)⟩
end Dm
end Go.Proofs.YtlpmpelnhdoboaaGreatDoor
