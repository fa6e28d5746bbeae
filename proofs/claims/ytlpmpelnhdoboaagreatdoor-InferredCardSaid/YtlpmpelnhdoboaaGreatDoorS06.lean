import Derived.Test.YtlpmpelnhdoboaaGreatDoorS05
import Derived.Laws.MakeOwn
import Derived.Laws.OwnMore
import Derived.OwnWalk
import Derived.Deep.AppendLies
import Derived.Deep.RegionLaw
import Derived.Deep.RegionHeld3
set_option linter.unusedVariables false
set_option linter.unusedSimpArgs false
set_option maxHeartbeats 20000000
namespace Go.Proofs.YtlpmpelnhdoboaaGreatDoor
namespace Tg
open Go.RowKit
theorem Tryz.fld1 (k f:Int) (v:Value) (w:World):Sem.run Tryz.prog (Instr.field 101 (.agg #[.int .i64 k,v,.int .i64 f]) 1) w= .ok v w:=by kernel_rfl
def nV (l:List Nat):List Value:=l.map fun n=>.int .i64 (n:Nat)
structure SM (w:World) (κ:Kp) (sb b o:Nat) (mv:Value) (mk:List Nat):Prop where
 blk:w.heap[sb]? =some (.cells #[.pointer (some ⟨b,o,none⟩),mv] 161 (0,0))
 row:TR w κ (3,0) 3 1 mv mk.length (nV mk)
 tg:κ sb=some (3,1)
 two:∀x ∈ mk,x<=2
theorem GM.keep {S:Tag->Prop}{w W:World}{κ:Kp}{b o:Nat}{v:Value}{ns:List NM}(h:GM w κ b o v ns) (A:Fr S κ κ w W) (E:¬S (0,0)) (C:¬S (1,0)) (B:∀i,¬S (2,i)):GM W κ b o v ns:=
 ⟨(Ke (w:=w) (a:=⟨b,o,none⟩) (A.rest b h.lt (fun t ht=>by rw[h.tg]at ht;cases ht;exact E))).trans h.at',Yj h.lt A.low.size,h.row.keep A C,fun i m hi=>(h.kds i m hi).keep A (B i),h.big,h.tg,fun p hp=>h.top p (Ym A.low.size hp),h.kb⟩
def mkN (mk:List Nat) (i:Nat):Nat:=mk[i]?.getD 0
def uns (mk:List Nat):Nat:=mk.countP fun x=>x == 0
variable {mk:List Nat}{j:Nat}
theorem jyK {z:Nat}(A:j<mk.length):mkN (mk.set j z)=Inf.up (mkN mk) j z:=by
 funext i
 unfold mkN Inf.up;rw[List.getElem?_set]
 by_cases e:j=i
 .subst e;simp[A]
 .rw[if_neg e,if_neg (Ne.symm e)]
variable {x:Nat}
theorem jtq (h:mk[j]? =some x):mkN mk j=x:=by unfold mkN;rw[h];rfl
theorem juA:∀{mk:List Nat}{j z:Nat},mk[j]? =some 0->z≠0->uns (mk.set j z)+1=uns mk
 |[],j,z,h,_=>by simp at h
 |x ::l,0,z,h,hz=>by
  simp at h;subst h;unfold uns;rw[List.set_cons_zero,List.countP_cons_of_neg (by simpa using hz),List.countP_cons_of_pos (by simp)]
 |x ::l,j+1,z,h,hz=>by
  have:=juA (mk:=l) (j:=j) (z:=z) (by simpa using h) hz;unfold uns at *;rw[List.set_cons_succ,List.countP_cons,List.countP_cons];omega
theorem jBh {z:Nat}(A:z≠0):uns (mk.set j z)<=uns mk:=by
 cases h :mk[j]? with
 |none=>rw[List.set_eq_of_length_le (List.getElem?_eq_none_iff.1 h)];exact jN
 |some x=>
  by_cases B:x=0
  .subst B;have:=juA h A;omega
  .have hl:=(jG h).1
   unfold uns;rw[List.countP_set hl];have:¬(z == 0)=true:=by simpa using A
   rw[if_neg this];omega
variable {i:Nat}
theorem jyu {l:List Nat}{a:Nat}(h:l[i]? =some a):(nV l)[i]? =some (.int .i64 (a:Nat)):=by unfold nV;rw[Yr,h];rfl
theorem jEt (l:List Nat) (i a:Nat):(nV l).set i (.int .i64 (a:Nat))=nV (l.set i a):=by unfold nV;rw[List.map_set]
theorem SM.set {w:World}{κ:Kp}{sb b o g cap:Nat}{mk:List Nat}(h:SM w κ sb b o (.slice (some ⟨g,0,none⟩) mk.length cap) mk) {j z:Nat}(B:z<=2) :
 SM (w.setCell ⟨g,j,none⟩ (.int .i64 (z:Nat))) κ sb b o (.slice (some ⟨g,0,none⟩) mk.length cap) (mk.set j z)/\Fr (· =(3,0)) κ κ w (w.setCell ⟨g,j,none⟩ (.int .i64 (z:Nat))):=by
 obtain⟨C,E⟩:=h.row.set j (.int .i64 (z:Nat));rw[jEt]at C;refine⟨⟨(E.rest sb (jb h.blk) (fun t ht e=>by rw[h.tg]at ht;cases ht;cases e)).trans h.blk,by rw[List.length_set];exact C,h.tg,fun x A=>?_⟩,E⟩;rcases List.mem_or_eq_of_mem_set A with A|rfl
 .exact h.two x A
 .exact B
variable {w W:World}{κ:Kp}{sb b o:Nat}{mv:Value}
theorem SM.on (h:SM w κ sb b o mv mk) (A:Below w.heap.size w W):SM W κ sb b o mv mk:=
 ⟨jc h.blk A (jb h.blk),h.row.keep (S:=fun _=>False) (.of A) id,h.tg,h.two⟩
def LP (κ:Kp) (b o sb:Nat) (v mv:Value) (ns:List NM) (mk:List Nat) (x:Nat) (w:World) (e:Ending) (w':World):Prop:=
 ∃r mk',e= .returned (.bool r)/\GM w' κ b o v ns/\SM w' κ sb b o mv mk'/\mk'.length=mk.length/\uns mk'<=uns mk/\Fr (· =(3,0)) κ κ w w'/\Inf.Lp (tsN ns) (fnN ns) (mkN mk) x r (mkN mk')
def LC (κ:Kp) (b o sb:Nat) (v mv:Value) (ns:List NM) (c:Nat):Prop:=∀(w:World) (mk:List Nat) (x:Nat),GM w κ b o v ns->SM w κ sb b o mv mk->mk.length=ns.length->uns mk<=c->x<ns.length->
 Calls Tryz.prog 123 #[.pointer (some ⟨sb,0,none⟩),.int .i64 (x:Nat)] w (LP κ b o sb v mv ns mk x w)
variable {v:Value}{ns:List NM}
set_option maxRecDepth 100000 in
theorem jEX (hW:WN ns) {c:Nat}(IH:∀c',c'<c->LC κ b o sb v mv ns c'):LC κ b o sb v mv ns c:=by
 intro w mk x hG hS hl hu hx
 obtain⟨mx,h1⟩:∃m,ns[x]? =some m:=⟨_,Yb hx⟩
 obtain⟨l,hf⟩:∃l,mx.f=l:=⟨_,rfl⟩
 have ln:l<ns.length:=by rw[<-hf];exact hW.lt x mx h1
 obtain⟨R,k8⟩:∃m,ns[l]? =some m:=⟨_,Yb ln⟩
 have ex:fnN ns x=l:=by rw[jcu h1,hf]
 have el:fnN ns l=l:=by rw[<-ex];exact hW.idm x
 have fl:R.f=l:=by rw[<-jcu k8];exact el
 obtain⟨z,hz⟩:∃z,mk[l]? =some z:=⟨_,Yb (by omega)⟩
 have y2:=hS.two z (Yo hz);obtain⟨g,cap,e,x1,_,x8⟩:=hS.row.at (by omega);have h4:=hS.row;rw[e]at h4;have cz:=h4.cell (jyu hz);have yz:=h4.frz l;have s0:w.cell? ⟨sb,0,none⟩=some (.pointer (some ⟨b,o,none⟩)):=ja hS.blk 0 rfl;have s1:w.cell? ⟨sb,1,none⟩=some mv:=ja hS.blk 1 rfl;rw[e]at s1;have v3:=jb hS.blk;have CF:Hid (Calls Tryz.prog 70 #[.pointer (some ⟨b,o,none⟩),.int .i64 (x:Nat)] w fun e w'=>e= .returned (.int .i64 (l:Nat))/\w'=w):=by have:=jtO hG h1;rw[hf]at this;exact this
 obtain⟨n,hn⟩:∃n,mk.length=n:=⟨_,rfl⟩
 have Y:=jH hn;have HL:=jH hl;rw[hn]at s1 x1 hl;have k2:l<n:=by omega
 have g1:(l:Int)<(n:Int):=by omega
 have u1:decide ((l:Int)<(0:Int))=false:=by simp
 have u2:decide ((n:Int)<=(l:Int))=false:=by simp;omega
 have y7:n<=100000:=by have:=hG.big;omega
 have HG:=jH hG;have HS:=jH hS;have HE:=jH e;have HZ:=jH hz;have E:=jH k8;have v1:=jH fl;have I:=jH ex;have HU:=jH hu;have x9:=jH IH;clear hG hS h1 hf k8 hz e h4 hx hn hl fl ex el hu IH
 by_cases h0:z=0
 .subst h0
  go_enter Tryz.func123,Tryz.ntmps123
  go_upto_region 7 with(go_at_call 70;refine CF.o.mono ?_;rintro _ w1 ⟨rfl,H⟩;have H:=H.symm;subst H)
  have A:SM w κ sb b o (.slice (some ⟨g,0,none⟩) mk.length cap) mk:=by have:=HS.o;rw[HE.o]at this;exact this
  obtain⟨F,Z⟩:=A.set (j:=l) (z:=1) (by omega);rw[show((1:Nat):Int)=1 from rfl]at F Z;have U:=HG.o.keep Z (by intro e;cases e) (by intro e;cases e) (fun i e=>by cases e);have r3:l<mk.length:=by rw[Y.o];exact k2
  have v9:=juA (z:=1) HZ.o (by omega);have h3:=jH v9;have r5:=jyK (z:=1) r3;have h8:=jH r5
  obtain⟨M,hM⟩:∃M,mk.set l 1=M:=⟨_,rfl⟩
  rw[hM]at F h3 h8;have r7:M.length=n:=by rw[<-hM,List.length_set,Y.o]
  rw[Y.o]at F;have x2:=jH r7;generalize w.setCell ⟨g,l,none⟩ (.int .i64 1)=W1 at F Z U ⊢;have a0:W1.cell? ⟨sb,0,none⟩=some (.pointer (some ⟨b,o,none⟩)):=ja F.blk 0 rfl;have y3:=jb F.blk;obtain⟨al,ck,h6,x5⟩:=(U.kds l R E.o).any
  obtain⟨O,k7⟩:∃O,R.xs.length=O:=⟨_,rfl⟩
  have x7:=U.kb l R E.o;rw[k7]at h6 x5 x7;have v0:=jH h6;have k5:=jH k7
  have CM:Hid (Calls Tryz.prog 35 #[.pointer (some ⟨b,o,none⟩),.int .i64 (l:Nat)] W1 fun e w'=>e= .returned (.agg #[.int .i64 (R.k:Nat),.slice al O ck,.int .i64 (l:Nat)])/\Below W1.heap.size W1 w'):=by
   have:=jtr U E.o (by rw[v1.o];exact E.o);rw[v1.o,h6]at this;exact this
  have y5:=Tryz.fld1 (R.k:Nat) (l:Nat) (.slice al O ck);have x4:=jH U;have y1:=jH F;have y0:=jH Z
  obtain⟨K,hK⟩:∃K,R.xs.map Int.toNat=K:=⟨_,rfl⟩
  have HK:=jH hK;clear A F Z U r3 v9 r5 hM r7 h6 k7 hK s0 s1 cz yz x8 v3
  go_wp2_with (go_at_call 35;refine CM.o.mono ?_;rintro _ w2 ⟨rfl,r9⟩)
  have k9:=jH r9;clear r9 CM CF a0 y3
  go_loopg [7,55] O (fun gh s7 s55 (wr:World)=>∃(i:Nat) (C:List Nat),i<=O/\gh=O-i/\s55= .int .i64 (i:Nat)/\GM wr κ b o v ns/\SM wr κ sb b o mv C/\C.length=n/\uns C<=uns M/\Fr (· =(3,0)) κ κ w wr/\∀r m',Inf.Lps (tsN ns) (fnN ns) (mkN C) (K.drop i) r m'->Inf.Lps (tsN ns) (fnN ns) (mkN M) K r m')
  case atStart=>
   refine⟨0,M,by omega,rfl,rfl,x4.o.on k9.o,?_,x2.o,jN,y0.o.trans (.of k9.o),fun r m' h=>h⟩;have:=y1.o.on k9.o;rw[HE.o,Y.o];exact this
  case round=>
   obtain⟨i,C,hi,y8,rfl,hg,hs,k4,v4,hf,q6⟩:=hrel;have k1:=jH hg;have v2:=jH hs;have B:=jH k4;have h5:=jH v4;have h9:=jH hf;have q4:=jH q6;clear hg hs k4 v4 hf q6
   by_cases x6:i<O
   .have g2:(i:Int)<(O:Int):=by omega
    obtain⟨a,ha⟩:∃a,R.xs[i]? =some a:=⟨_,Yb (by rw[k5.o];exact x6)⟩
    have ra:=hW.kid l R E.o a (Yo ha)
    obtain⟨an,rfl⟩:∃an:Nat,a=an:=⟨a.toNat,by omega⟩
    have hT:=k1.o.kds l R E.o;rw[k5.o]at hT;obtain⟨gk,cp,e1,e2,_,e3⟩:=hT.at (by omega);rw[v0.o]at e1;cases e1;rw[v0.o]at hT;have c1:=hT.cell (jvV ha);have CL:=jH (x9.o (uns C) (by have:=h5.o;have:=h3.o;have:=HU.o;omega) wr C an k1.o v2.o (by rw[B.o];have:=HL.o;have:=Y.o;omega) jN (by omega))
    have r4:Hid (K.drop i=an ::K.drop (i+1)):=by
     have h2:K[i]? =some an:=by rw[<-HK.o,Yr,ha];rfl
     have h7:=(jG h2).1;rw[Yb h7]at h2;injection h2 with h2
     show _=_;rw[Ki h7,h2]
    clear ha ra hT
    go_wp2_with (go_at_call 123;refine CL.o.mono ?_;rintro _ w4 ⟨rr,m4,rfl,v8,r6,r2,v5,v7,q7⟩;have r1:=jH v8;have q9:=jH r6;have q8:=jH r2;have r8:=jH v5;have x0:=jH v7;have q5:=jH q7;clear v8 r6 r2 v5 v7 q7)
    .rename_i hrr
     subst hrr;go_returns;refine⟨true,m4,rfl,r1.o,q9.o,by rw[q8.o,B.o,Y.o],by have:=r8.o;have:=h5.o;have:=h3.o;omega,h9.o.trans x0.o,.ring (by rw[I.o,jtq HZ.o]) ?_⟩;rw[I.o,<-h8.o,(jpP E.o).2,HK.o];refine q4.o _ _ ?_;rw[r4.o];exact .ring q5.o
    .rename_i hrr
     subst hrr
     go_roundg (O-(i+1))
     case measure=>omega
     case rel=>
      refine⟨i+1,m4,by omega,rfl,by go_num,r1.o,q9.o,by rw[q8.o,B.o],Ym r8.o h5.o,h9.o.trans x0.o,fun r m' h=>q4.o r m' ?_⟩;rw[r4.o];exact .go q5.o h
   .have:i=O:=by omega
    subst this;have A:SM wr κ sb b o (.slice (some ⟨g,0,none⟩) C.length cap) C:=by have:=v2.o;rw[HE.o,Y.o]at this;rw[B.o];exact this
    have s1:wr.cell? ⟨sb,1,none⟩=some (.slice (some ⟨g,0,none⟩) n cap):=by have:=ja A.blk 1 rfl;rw[B.o]at this;exact this
    have v3:=jb A.blk
    obtain⟨y,hy⟩:∃y,C[l]? =some y:=⟨_,Yb (by rw[B.o];exact k2)⟩
    have cz:=A.row.cell (jyu hy);have yz:=A.row.frz l;obtain⟨F,Z⟩:=A.set (j:=l) (z:=2) (by omega);rw[show((2:Nat):Int)=2 from rfl]at F Z;have x3:=jH F;have v6:=jH Z
    have y6:g<wr.heap.size:=by
     obtain⟨g',c',e',_,_,h'⟩:=A.row.at (by rw[B.o];omega);cases e';exact h'
    clear F Z hy A
    go_wp2_with fail
    go_returns;refine⟨false,C.set l 2,rfl,k1.o.keep v6.o (by intro e;cases e) (by intro e;cases e) (fun i e=>by cases e),?_,by rw[List.length_set,B.o,Y.o],?_,h9.o.trans v6.o,?_⟩
    .have:=x3.o
     rw[HE.o,Y.o,<-B.o];exact this
    .have:=jBh (mk:=C) (j:=l) (z:=2) (by omega)
     have:=h5.o;have:=h3.o;omega
    .rw[jyK (by rw[B.o];exact k2)]
     have h:=Inf.Lp.done (ts:=tsN ns) (f:=fnN ns) (m:=mkN mk) (m':=mkN C) (n:=x) (by rw[I.o,jtq HZ.o]) (by
      rw[I.o,<-h8.o,(jpP E.o).2,HK.o];refine q4.o _ _ ?_;rw[Ui (by rw[<-HK.o,Ua,k5.o];exact jN)]
      exact .nil)
     rw[I.o]at h;exact h
 .have hz':z=1\/z=2:=by omega
  have u3:((z:Int) == 0)=false:=by rw[Kl];omega
  have u4:((z:Int) != 0)=true:=by rw[bne_iff_ne];omega
  have HR:Hid (Inf.Lp (tsN ns) (fnN ns) (mkN mk) x ((z:Int) == 1) (mkN mk)):=by
   have:=Inf.Lp.seen (ts:=tsN ns) (f:=fnN ns) (m:=mkN mk) (n:=x) (by rw[I.o,jtq HZ.o];exact h0);rw[I.o,jtq HZ.o]at this;rcases hz' with rfl|rfl <;> exact this
  obtain⟨rz,y4⟩:∃rz,((z:Int) == 1)=rz:=⟨_,rfl⟩
  rw[y4]at HR;clear hz' y2
  go_enter Tryz.func123,Tryz.ntmps123
  go_wp2_with (go_at_call 70;refine CF.o.mono ?_;rintro _ w1 ⟨rfl,H⟩;have H:=H.symm;subst H)
  go_returns;exact⟨rz,mk,rfl,HG.o,HS.o,rfl,jN,Fr.refl _ _ _,HR.o⟩
theorem jEY (A:WN ns) (c:Nat):LC κ b o sb v mv ns c:=by
 induction c using Nat.strongRecOn with
 |ind c ih=>exact jEX A ih
theorem Tryz.kiI:(Tryz.prog.info? 3).map (fun i=>(i.zero,i.size,i.bytes))=some (some (.int .i64 0),1,8):=by kernel_rfl
theorem Tryz.kuI:Tryz.prog.underlying 56=some (.slice 3):=by kernel_rfl
theorem jyU (n:Nat) (E:n<=100000) (w:World):(Instr.makeSlice 56 (.int .i64 (n:Int)) (.int .i64 (n:Int))).run Tryz.prog w= .ok (.slice (some ⟨w.heap.size,0,none⟩) n n) (w.alloc (.cells (List.replicate n (Value.int .i64 0)).toArray 3)):=by
 obtain⟨i,hi,B,hs,C⟩:=info_parts Tryz.kiI;have A:=run_make (P:=Tryz.prog) w 56 3 i _ Tryz.kuI hi B .i64 .i64 n (n:Int) (by omega) (by omega) (by rw[C];omega) (by omega);rw[hs]at A;simp only[Int.toNat_natCast,Nat.mul_one]at A
 have e:madeCells (Value.int .i64 0).cells n=(List.replicate n (Value.int .i64 0)).toArray:=by
  apply Array.toList_inj.1;rw[show(Value.int IntKind.i64 0).cells=#[.int .i64 0] from rfl,toList_madeCells_one]
 rw[e]at A;exact A
def SP (κ:Kp) (b o:Nat) (v:Value) (ns:List NM) (x y:Nat) (w:World) (e:Ending) (w':World):Prop:=
 ∃r ns',e= .returned (.bool r)/\GM w' κ b o v ns'/\WN ns'/\Sh ns ns'/\Fr (fun t=>t=(1,0)\/t=(3,0)) κ κ w w'/\
  (r=true->∃m',Inf.Mg (tsN ns) (fnN ns) [(x,y)] true (fnN ns')/\Inf.Lp (tsN ns) (fnN ns') (fun _=>0) x false m')/\
  (r=false->∃m',Inf.Mg (tsN ns) (fnN ns) [(x,y)] false (fnN ns')\/(Inf.Mg (tsN ns) (fnN ns) [(x,y)] true (fnN ns')/\Inf.Lp (tsN ns) (fnN ns') (fun _=>0) x true m'))
variable {w':World}
theorem jGm {S:Tag->Prop}{A:Kp}(B:Below w.heap.size w W) (C:Fr S A A W w') (hk:∀p,p<w.heap.size->A p=κ p):Fr S κ κ w w':=
 ⟨(B.mono (Yi _)).trans C.low,fun _ _=>rfl,fun p hp hn=>(C.rest p (Yj hp B.size) (fun t ht=>hn t (by rw[<-hk p hp];exact ht))).trans (B.block p hp)⟩
variable {n:Nat}
theorem GM.retag {A:Kp}(h:GM w κ b o v ns) (hk:∀p,p<n->A p=κ p) (C:b<n) (B:∀p,v.ownBlock=some p->p<n) (hs:∀(i:Nat) (m:NM) (p:Nat),ns[i]? =some m->m.v.ownBlock=some p->p<n) (ht:∀p,w.heap.size<=p->A p=none):GM w A b o v ns:=
 ⟨h.at',h.lt,⟨h.row.own,fun p hp=>by rw[hk p (B p hp)];exact h.row.tag p hp⟩,fun i m hi=>⟨(h.kds i m hi).own,fun p hp=>by rw[hk p (hs i m p hi hp)];exact(h.kds i m hi).tag p hp⟩,h.big,by rw[hk b C];exact h.tg,ht,h.kb⟩
theorem GM.lts (h:GM w κ b o v ns):(∀p,v.ownBlock=some p->p<w.heap.size)/\∀(i:Nat) (m:NM) (p:Nat),ns[i]? =some m->m.v.ownBlock=some p->p<w.heap.size:=
 ⟨fun p hp=>(h.row.own.lt p hp).2,fun i m p hi hp=>((h.kds i m hi).own.lt p hp).2⟩
theorem jBg (n:Nat):∀x ∈ List.replicate n 0,x<=2:=fun x hx=>by rw[List.eq_of_mem_replicate hx];omega
theorem jEN (n:Nat):mkN (List.replicate n 0)=fun _=>0:=by
 funext i
 unfold mkN;rw[List.getElem?_replicate]
 split <;> rfl
theorem jB2 (h:GM w κ b o v ns) (Y:n<=100000) (C:(w.alloc (.cells (List.replicate n (Value.int .i64 0)).toArray 3 (0,0))).alloc (.cells #[.pointer (some ⟨b,o,none⟩),.slice (some ⟨w.heap.size,0,none⟩) n n] 161 (0,0))=W) :
 ∃κ',GM W κ' b o v ns/\SM W κ' (w.heap.size+1) b o (.slice (some ⟨w.heap.size,0,none⟩) n n) (List.replicate n 0)/\(∀p,p<w.heap.size->κ' p=κ p)/\Below w.heap.size w W:=by
 subst C;have I:Below w.heap.size w (w.alloc (.cells (List.replicate n (Value.int .i64 0)).toArray 3 (0,0))):=jB.alloc jN _
 obtain⟨A,H⟩:∃A,w.alloc (.cells (List.replicate n (Value.int .i64 0)).toArray 3 (0,0))=A:=⟨_,rfl⟩
 have K:A.heap.size=w.heap.size+1:=by rw[<-H,Ya]
 have O:A.heap[w.heap.size]? =some (.cells (List.replicate n (Value.int .i64 0)).toArray 3 (0,0)):=by rw[<-H];exact jg w _
 rw[H]at I ⊢;have F:Below A.heap.size A (A.alloc (.cells #[.pointer (some ⟨b,o,none⟩),.slice (some ⟨w.heap.size,0,none⟩) n n] 161 (0,0))):=jB.alloc jN _;have E:=jg A (.cells #[.pointer (some ⟨b,o,none⟩),.slice (some ⟨w.heap.size,0,none⟩) n n] 161 (0,0));have B:=jc O F (jb O)
 obtain⟨W,C⟩:∃W,A.alloc (.cells #[.pointer (some ⟨b,o,none⟩),.slice (some ⟨w.heap.size,0,none⟩) n n] 161 (0,0))=W:=⟨_,rfl⟩
 have Z:W.heap.size=w.heap.size+2:=by rw[<-C,Ya,K]
 rw[C]at F E B ⊢;rw[K]at E;have R:Below w.heap.size w W:=I.trans (F.mono (by omega));have U:=h.on R;obtain⟨q1,q2⟩:=h.lts;refine⟨jq (jq κ w.heap.size (3,0)) (w.heap.size+1) (3,1),?_,⟨E,⟨?_,?_⟩,?_,jBg n⟩,?_,R⟩
 .refine U.retag (n:=w.heap.size) (fun p hp=>?_) h.lt q1 q2 (fun p hp=>?_)
  .unfold jq;rw[if_neg (by omega),if_neg (by omega)]
  .unfold jq;rw[if_neg (by omega),if_neg (by omega)];exact h.top p (by omega)
 .have e:nV (List.replicate n 0)=List.replicate n (Value.int .i64 0):=by unfold nV;rw[List.map_replicate];rfl
  rw[e,List.length_replicate];refine⟨by simp,.inr ⟨w.heap.size,n,(List.replicate n (Value.int .i64 0)).toArray,rfl,Yi _,B,jN,by unfold maxLen;omega,?_,?_⟩⟩
  .simp
  .simp
 .intro p hp
  have e:(some w.heap.size:Option Nat)=some p:=hp;injection e with e
  subst e;unfold jq;rw[if_neg (by omega),if_pos rfl]
 .unfold jq;rw[if_pos rfl]
 .intro p hp
  unfold jq;rw[if_neg (by omega),if_neg (by omega)]
set_option maxRecDepth 100000 in
theorem jCv {y:Nat}(H:GM w κ b o v ns) (hW:WN ns) (O:x<ns.length) (hy:y<ns.length) :
 Calls Tryz.prog 109 #[.pointer (some ⟨b,o,none⟩),.int .i64 (x:Nat),.int .i64 (y:Nat)] w (SP κ b o v ns x y w):=by
 have CM:=jH (jEQ H hW O hy);obtain⟨a,cap,e,_⟩:=H.form
 obtain⟨n,hn⟩:∃n,ns.length=n:=⟨_,rfl⟩
 rw[hn]at e O;have HE:=jH e;have HN:=jH hn;have h6:n<=100000:=by have:=H.big;omega
 have r2:=jyU n h6;clear H hW hy e hn
 go_enter Tryz.func109,Tryz.ntmps109
 go_upto_region 3 with(go_at_call 122;refine CM.o.mono ?_;rintro _ w1 ⟨rr,K,rfl,k2,h7,Y,E,k1,U,h1⟩;have A:=jH k2;have I:=jH h7;have C:=jH Y;have h3:=jH k1;have k9:=jH U;have k5:=jH h1;clear k2 h7 Y E k1 U h1)
 .rename_i B
  have B:rr=false:=by simpa using B
  subst B;go_returns;exact⟨false,K,rfl,A.o,I.o,C.o,h3.o.mono (fun t h=>.inl h),fun h=>(by cases h),fun _=>⟨fun _=>0,.inl (k5.o (by first|rfl|trivial) [])⟩⟩
 .have B:rr=true:=by
   have h:(!rr)=false:=by assumption
   simpa using h
  subst B;have E:=A.o.at';rw[HE.o]at E;have q9:=A.o.lt
  go_upto_region 4 with fail
  generalize hWW:World.alloc _ _=W;obtain⟨κ',h9,h0,h4,R⟩:=jB2 A.o h6 hWW;have F:=C.o.len;have CL:=jH (jEY I.o (uns (List.replicate n 0)) W (List.replicate n 0) x h9 h0 (by rw[List.length_replicate,F,HN.o]) jN (by rw[F,HN.o];exact O));have q7:=jH h4;have q6:=jH R;clear hWW h9 h0 h4 R F E
  go_wp2_with (go_at_call 123;refine CL.o.mono ?_;rintro _ w4 ⟨r4,m4,rfl,h5,q4,q5,k8,h8,Z⟩;have r1:=jH h5;have q8:=jH h8;have k4:=jH Z;clear h5 q4 q5 k8 h8 Z)
  go_returns;have h2:=jGm q6.o q8.o q7.o;have k7:=A.o.keep h2 (by intro e;cases e) (by intro e;cases e) (fun i e=>by cases e);have hp:=k4.o;rw[jEN,C.o.ts]at hp;have hm:=k9.o (by first|rfl|trivial) [] true (fnN K) (.nil _);refine⟨!r4,K,rfl,k7,I.o,C.o,(h3.o.mono (fun t h=>.inl h)).trans (h2.mono (fun t h=>.inr h)),fun h=>?_,fun h=>?_⟩
  .have:r4=false:=by simpa using h
   subst this;exact⟨_,hm,hp⟩
  .have:r4=true:=by simpa using h
   subst this;exact⟨_,.inr ⟨hm,hp⟩⟩
structure WM (w:World) (κ:Kp) (wb:Nat) (tv bv:Value) (er at':Int) (v:Value) (ns:List NM):Prop where
 blk:w.heap[wb]? =some (.cells #[tv,v,bv,.int .i64 er,.int .i64 at'] 70 (0,0))
 gm:GM w κ wb 1 v ns
variable {wb:Nat}{tv bv:Value}{er a0:Int}
theorem WM.fail (h:WM w κ wb tv bv er a0 v ns) (e a:Int) :
 WM ((w.setCell ⟨wb,3,none⟩ (.int .i64 e)).setCell ⟨wb,4,none⟩ (.int .i64 a)) κ wb tv bv e a v ns/\Fr (· =(0,0)) κ κ w ((w.setCell ⟨wb,3,none⟩ (.int .i64 e)).setCell ⟨wb,4,none⟩ (.int .i64 a)):=by
 have E:=jf (jf h.blk 3 (.int .i64 e)) 4 (.int .i64 a);have C:jn4 wb w ((w.setCell ⟨wb,3,none⟩ (.int .i64 e)).setCell ⟨wb,4,none⟩ (.int .i64 a)):=((jn4.refl wb w).set 3 _).set 4 _;have B:Fr (· =(0,0)) κ κ w ((w.setCell ⟨wb,3,none⟩ (.int .i64 e)).setCell ⟨wb,4,none⟩ (.int .i64 a)):=Fr.lone C h.gm.tg rfl;have A:((w.setCell ⟨wb,3,none⟩ (.int .i64 e)).setCell ⟨wb,4,none⟩ (.int .i64 a)).heap[wb]? =some (.cells #[tv,v,bv,.int .i64 e,.int .i64 a] 70 (0,0)):=E;exact⟨⟨A,⟨ja A 1 rfl,jb A,h.gm.row.keep B (by intro e;cases e),fun i m hi=>(h.gm.kds i m hi).keep B (by intro e;cases e),h.gm.big,h.gm.tg,fun p hp=>h.gm.top p (Ym C.size hp),h.gm.kb⟩⟩,B⟩
theorem fail_any (h:WM w κ wb tv bv er a0 v ns) (e a:Int) :
 Calls Tryz.prog 110 #[.pointer (some ⟨wb,0,none⟩),.int .i64 e,.int .i64 a] w fun e' w'=>e'= .returned (.tuple #[])/\WM w' κ wb tv bv e a v ns/\Fr (· =(0,0)) κ κ w w':=by
 have H:=jH (h.fail e a);have E:w.cell? ⟨wb,3,none⟩=some (.int .i64 er):=ja h.blk 3 rfl;have B:w.cell? ⟨wb,4,none⟩=some (.int .i64 a0):=ja h.blk 4 rfl;have F:=je h.blk 3;have A:=je h.blk 4;have C:=jb h.blk;clear h
 go_enter Tryz.func110,Tryz.ntmps110
 go_wp2
 go_returns;exact⟨rfl,H.o⟩
theorem jzZ (h:WM w κ wb tv bv er a0 v ns) (he:er≠0) (x y p:Int) :
 Calls Tryz.prog 90 #[.pointer (some ⟨wb,0,none⟩),.int .i64 x,.int .i64 y,.int .i64 p] w fun e' w'=>e'= .returned (.tuple #[])/\w'=w:=by
 have B:w.cell? ⟨wb,3,none⟩=some (.int .i64 er):=ja h.blk 3 rfl;have A:=jb h.blk;have u1:(er == 0)=false:=by rw[Kl];exact he
 clear h he
 go_enter Tryz.func90,Tryz.ntmps90
 go_wp2
 go_returns;exact⟨rfl,rfl⟩
def DP (κ:Kp) (wb:Nat) (tv bv:Value) (a0 p:Int) (v:Value) (ns:List NM) (x y:Nat) (w:World) (e:Ending) (w':World):Prop:=
 e= .returned (.tuple #[])/\∃ns',WN ns'/\Sh ns ns'/\Fr (fun t=>t=(0,0)\/t=(1,0)\/t=(3,0)) κ κ w w'/\
  ((WM w' κ wb tv bv 0 a0 v ns'/\∃m',Inf.Mg (tsN ns) (fnN ns) [(x,y)] true (fnN ns')/\Inf.Lp (tsN ns) (fnN ns') (fun _=>0) x false m')\/
   (WM w' κ wb tv bv 7 p v ns'/\∃m',Inf.Mg (tsN ns) (fnN ns) [(x,y)] false (fnN ns')\/(Inf.Mg (tsN ns) (fnN ns) [(x,y)] true (fnN ns')/\Inf.Lp (tsN ns) (fnN ns') (fun _=>0) x true m')))
set_option maxRecDepth 100000 in
theorem jz0 {y:Nat}(h:WM w κ wb tv bv 0 a0 v ns) (Z:WN ns) (hx:x<ns.length) (hy:y<ns.length) (p:Int) :
 Calls Tryz.prog 90 #[.pointer (some ⟨wb,0,none⟩),.int .i64 (x:Nat),.int .i64 (y:Nat),.int .i64 p] w (DP κ wb tv bv a0 p v ns x y w):=by
 have CS:=jH (jCv h.gm Z hx hy);have c3:w.cell? ⟨wb,3,none⟩=some (.int .i64 0):=ja h.blk 3 rfl;have hl:=jb h.blk;have HB:=jH h.blk;have HT:=jH h.gm.tg;clear h Z hx hy
 go_enter Tryz.func90,Tryz.ntmps90
 go_wp2_with (first
  |(go_at_call 109;refine CS.o.mono ?_;rintro _ w1 ⟨rr,K,rfl,U,H,E,A,C,R⟩;have O:=(A.rest wb hl (fun t ht e=>by rw[HT.o]at ht;cases ht;rcases e with e|e <;> cases e)).trans HB.o;have F:=jH (WM.mk O U);have I:=jH H;have B:=jH E;have Y:=jH A;have h3:=jH C;have h1:=jH R;clear U H E A C R O)
  |(go_at_call 110;refine(fail_any F.o 7 p).mono ?_;rintro _ w2 ⟨rfl,h2,h0⟩))
 all_goals go_returns
 .refine⟨rfl,K,I.o,B.o,(Y.o.mono (fun t h=>.inr h)).trans (h0.mono (fun t h=>.inl h)),.inr ⟨h2,h1.o ?_⟩⟩
  have h:(!rr)=true:=by assumption
  simpa using h
 .refine⟨rfl,K,I.o,B.o,Y.o.mono (fun t h=>.inr h),.inl ⟨F.o,h3.o ?_⟩⟩
  have h:(!rr)=false:=by assumption
  simpa using h
def KS (w:World) (kv:Value) (xs:List Int):Prop:=(kv= .slice none 0 0/\xs=[])\/∃(ad:Addr) (c:Nat),kv= .slice (some ad) xs.length c/\∀(j:Nat) (u:Value),(iV xs)[j]? =some u->w.cell? (ad.add j)=some u
variable {kv:Value}{xs:List Int}
theorem KS.on (h:KS w kv xs) (A:Below w.heap.size w W):KS W kv xs:=by
 rcases h with h|⟨E,c,C,B⟩
 .exact .inl h
 .exact .inr ⟨E,c,C,fun j u hj=>(A.cell (World.block_lt_of_cell? w _ (B j u hj))).trans (B j u hj)⟩
theorem KS.nil (w:World):KS w (.slice none 0 0) []:=.inl ⟨rfl,rfl⟩
theorem KS.slice (h:KS w kv xs):∃a c,kv= .slice a xs.length c:=by
 rcases h with⟨A,rfl⟩|⟨B,c,A,C⟩
 .exact⟨_,_,A⟩
 .exact⟨_,_,A⟩
theorem jah (xs:List Int):(iV xs).length=xs.length:=by unfold iV;rw[Ua]
theorem jcm (xs:List Int):∀u ∈ iV xs,u.oneCell'=true:=by
 intro u A;unfold iV at A;rw[Uh]at A;obtain⟨z,_,rfl⟩:=A;rfl
theorem jgP {P:Program}(w:World) (t A e:TypeId) (i:TypeInfo) (ht:P.underlying t=some (.slice e)) (hi:P.info? e=some i) (g:Nat) :
 (Builtin.append_ #[t,t] A #[.slice (some ⟨g,0,none⟩) 0 0,.slice none 0 0]).run P w= .ok (.slice (some ⟨g,0,none⟩) 0 0) w:=by
 simp[Builtin.append_,run_underlying ht,sizeOf,typeInfo,hi,Builtin.lenOf,Builtin.firstCells,loadCells,loadCellsFrom,storeCells]
variable {g:Nat}
theorem jCz (B:TypeId) (F:w.heap[g]? =some (.cells #[] 3 (0,0))) (hk:KS w kv xs) (K:xs.length<=1000) :
 ∃v' w',(Builtin.append_ #[56,56] B #[.slice (some ⟨g,0,none⟩) 0 0,kv]).run Tryz.prog w= .ok v' w'/\w'.ownsRow 0 3 1 v' xs.length (iV xs)/\w.grownBy w' (some g)/\(v'.ownBlock=some g\/v'.ownBlock=some w.heap.size):=by
 obtain⟨i0,A,C,E,H⟩:=info_parts Tryz.kiI;have I:w.ownsRow 0 3 1 (.slice (some ⟨g,0,none⟩) 0 0) 0 []:=jev (xs:=[]) F (Yi _) (by simp[maxLen])
 rcases hk with⟨rfl,rfl⟩|⟨O,c,rfl,R⟩
 .exact⟨_,w,jgP w _ _ _ i0 Tryz.kuI A g,I,⟨rfl,rfl,rfl,jN,fun _ _ _=>rfl⟩,.inl rfl⟩
 .obtain⟨v',w',a1,a2,a3,a4⟩:=jgO (P:=Tryz.prog) w 0 56 B 3 i0 _ 1 8 Tryz.kuI A C E H rfl (by decide) _ 0 [] I O xs.length c (iV xs) (by rw[jah];omega) R (jcm xs) (by simp only[maxLen];omega) (by omega) (Yi _)
  refine⟨v',w',a1,?_,a3,a4⟩;rw[Kc,Yx]at a2;exact a2
theorem jwX {ops:Array Oper}{rest:List Oper}{o:Oper}{a:Act}{Q:Exit->Act->World->Prop}(A:o.guard=none) (s x:Operand)
 (ho:o.op= .call {callee:=.builtin .append,args:=#[s,x],argTypes:=#[56,56]}) (hs:a.eval s= .slice (some ⟨g,0,none⟩) 0 0) (C:w.heap[g]? =some (.cells #[] 3 (0,0)))
 (E:a.eval x=kv) (hk:KS w kv xs) (B:xs.length<=1000)
 (h:∀v' w',w'.ownsRow 0 3 1 v' xs.length (iV xs)->w.grownBy w' (some g)->(v'.ownBlock=some g\/v'.ownBlock=some w.heap.size)->wpList Tryz.prog ops Q rest (a.put o.dst v') w'):wpList Tryz.prog ops Q (o ::rest) a w:=by
 refine wpList_plain A fun K hK=>?_;obtain⟨v',w',I,O,F,H⟩:=jCz (w:=w) o.type C hk B;unfold Oper.wp execOp;simp only[ho,resolve,invoke,builtin,Sem.run_bind,Sem.run_pure,Result.andThen_ok,List.map_toArray,Kt,List.map_nil,hs,E,I];exact hK _ _ (h v' w' O F H)
theorem Tryz.kiN:(Tryz.prog.info? 101).map (fun i=>(i.zero,i.size,i.bytes))=some (some (.agg #[.int .i64 0,.slice none 0 0,.int .i64 0]),3,40):=by kernel_rfl
theorem Tryz.kuN:Tryz.prog.underlying 41=some (.slice 101):=by kernel_rfl
variable {w1 w3:World}{k cap:Nat}
theorem jJc {A:Value}(h:WM w κ wb tv bv er a0 v ns) (hn:ns.length<100000) (hx:xs.length<=1000)
 (U:w1.ownsRow 0 3 1 A xs.length (iV xs)) (h4:(w.alloc (.cells #[] 3 (0,0))).grownBy w1 (some w.heap.size)) (h2:A.ownBlock=some w.heap.size\/A.ownBlock=some (w.alloc (.cells #[] 3 (0,0))).heap.size)
 (k8:w3.ownsRow 0 101 3 (.slice (some ⟨g,0,none⟩) (ns.length+1) cap) (ns.length+1) (ns.flatMap nmC ++[.int .i64 (k:Nat),A,.int .i64 (ns.length:Nat)]))
 (Y:(w1.alloc (.cells #[.int .i64 (k:Nat),A,.int .i64 (ns.length:Nat)] 101 (0,0))).grownBy w3 v.ownBlock) (k7:v.ownBlock=some g\/g=w1.heap.size+1) :
 ∃κ',WM (w3.setCell ⟨wb,1,none⟩ (.slice (some ⟨g,0,none⟩) (ns.length+1) cap)) κ' wb tv bv er a0 (.slice (some ⟨g,0,none⟩) (ns.length+1) cap) (ns ++[⟨k,xs,ns.length,A⟩])/\
  Fr (fun t=>t=(0,0)\/t=(1,0)) κ κ' w (w3.setCell ⟨wb,1,none⟩ (.slice (some ⟨g,0,none⟩) (ns.length+1) cap)):=by
 have q5:=h4.size;rw[Ya]at q5 h2;have K:Below w.heap.size w w1:=(jB.alloc jN _).grown h4 (by rw[Ya];omega) (fun k hk=>by cases hk;omega)
 obtain⟨b1,hb,r1,r2⟩:∃b,A.ownBlock=some b/\w.heap.size<=b/\b<w1.heap.size:=by
  rcases h2 with e|e
  .exact⟨_,e,jN,(U.lt _ e).2⟩
  .exact⟨_,e,Nat.le_succ _,(U.lt _ e).2⟩
 have k5:TR w1 (jq κ b1 (2,ns.length)) (2,ns.length) 3 1 A xs.length (iV xs):=TR.new U hb
 obtain⟨F,h0⟩:∃F,jq κ b1 (2,ns.length)=F:=⟨_,rfl⟩
 have h5:∀p,p<w.heap.size->F p=κ p:=fun p hp=>by rw[<-h0];unfold jq;rw[if_neg (by omega)]
 have h6:∀p,w1.heap.size<=p->F p=none:=fun p hp=>by rw[<-h0];unfold jq;rw[if_neg (by omega)];exact h.gm.top p (Ym K.size hp)
 rw[h0]at k5;obtain⟨l1,l2⟩:=h.gm.lts;have k2:GM w1 F wb 1 v ns:=(h.gm.on K).retag h5 h.gm.lt l1 l2 h6;have q7:Fr (fun t=>t=(0,0)\/t=(1,0)) κ F w w1:=(Fr.of K).tags h5
 obtain⟨I,Z⟩:∃I,(w1.alloc (.cells #[.int .i64 (k:Nat),A,.int .i64 (ns.length:Nat)] 101 (0,0)))=I:=⟨_,rfl⟩
 have R:Below w1.heap.size w1 I:=by rw[<-Z];exact jB.alloc jN _
 have q6:I.heap.size=w1.heap.size+1:=by rw[<-Z,Ya]
 rw[Z]at Y;have C:=k2.on R;have k9:TR I F (2,ns.length) 3 1 A xs.length (iV xs):=k5.keep (S:=fun _=>False) (.of R) id;have q8:Fr (fun t=>t=(0,0)\/t=(1,0)) F F w1 I:=.of R
 obtain⟨κ2,k4,B,h7⟩:=C.row.app k8 Y (by
  rcases k7 with e|e
  .exact .inl e.symm
  .exact .inr (by rw[q6,e];rfl))
 have q9:=B.low.size;have k1:w1.heap[wb]? =some (.cells #[tv,v,bv,.int .i64 er,.int .i64 a0] 70 (0,0)):=(K.block wb h.gm.lt).trans h.blk;have h9:I.heap[wb]? =some (.cells #[tv,v,bv,.int .i64 er,.int .i64 a0] 70 (0,0)):=(R.block wb k2.lt).trans k1;have h8:w3.heap[wb]? =some (.cells #[tv,v,bv,.int .i64 er,.int .i64 a0] 70 (0,0)):=(B.rest wb C.lt (fun t ht e=>by rw[C.tg]at ht;cases ht;cases e)).trans h9;have h3:κ2 wb=some (0,0):=(B.old wb C.lt).trans C.tg
 obtain⟨H,q4⟩:∃H,Value.slice (some ⟨g,0,none⟩) (ns.length+1) cap=H:=⟨_,rfl⟩
 rw[q4]at k4 ⊢;have E:(w3.setCell ⟨wb,1,none⟩ H).heap[wb]? =some (.cells #[tv,H,bv,.int .i64 er,.int .i64 a0] 70 (0,0)):=jf h8 1 H;have O:Fr (· =(0,0)) κ2 κ2 w3 (w3.setCell ⟨wb,1,none⟩ H):=Fr.lone ((jn4.refl wb w3).set 1 H) h3 rfl;refine⟨κ2,⟨E,⟨ja E 1 rfl,jb E,?_,?_,?_,h3,?_,?_⟩⟩,((q7.trans q8).trans (B.mono (fun t e=>.inr e))).trans (O.mono (fun t e=>.inl e))⟩
 .have:=k4.keep O (by intro e;cases e)
  rw[Yg,List.flatMap_append];exact this
 .intro i m hi
  rw[List.getElem?_append]at hi
  split at hi
  .exact((C.kds i m hi).keep B (by intro e;cases e)).keep O (by intro e;cases e)
  .rename_i hl
   have e:i=ns.length:=by
    rcases Kg (i-ns.length) 1 with h1|h1
    .omega
    .rw[Ue (by simpa using h1)]at hi;cases hi
   subst e;rw[Nat.sub_self]at hi;cases hi;exact(k9.keep B (by intro e;cases e)).keep O (by intro e;cases e)
 .rw[Yg];show ns.length+1<=_;omega
 .intro p hp
  rw[jy]at hp;rw[h7 p hp];exact h6 p (by omega)
 .intro i m hi
  rw[List.getElem?_append]at hi
  split at hi
  .exact h.gm.kb i m hi
  .have e:=Yo hi
   rw[Kf]at e;subst e;exact hx
def AP (κ:Kp) (wb:Nat) (tv bv:Value) (er a0:Int) (ns:List NM) (k:Nat) (xs:List Int) (w:World) (e:Ending) (w':World):Prop:=
 e= .returned (.int .i64 (ns.length:Nat))/\∃κ' v' kv',WM w' κ' wb tv bv er a0 v' (ns ++[⟨k,xs,ns.length,kv'⟩])/\Fr (fun t=>t=(0,0)\/t=(1,0)) κ κ' w w'
theorem jJb (h:WM w κ wb tv bv er a0 v ns) (A:(w.alloc (.cells #[] 3 (0,0))).grownBy w1 (some w.heap.size)) :
 w1.heap[wb]? =some (.cells #[tv,v,bv,.int .i64 er,.int .i64 a0] 70 (0,0))/\w1.ownsRow 0 101 3 v ns.length (ns.flatMap nmC)/\w.heap.size+1<=w1.heap.size:=by
 have C:=A.size;rw[Ya]at C;have B:Below w.heap.size w w1:=(jB.alloc jN _).grown A (by rw[Ya];omega) (fun k hk=>by cases hk;omega);exact⟨(B.block wb h.gm.lt).trans h.blk,(h.gm.on B).row.own,C⟩
theorem jAx {κ:Kp}{X O:Obj}(B:w1.heap[wb]? =some X) (C:∀b,v.ownBlock=some b->b≠wb) (A:(w1.alloc O).grownBy w3 v.ownBlock):w3.heap[wb]? =some X:=by
 have E:=jb B;rw[A.block wb (by rw[Ya];omega) (fun e=>C wb e.symm rfl)];rw[Kq _ _ _ E];exact B
set_option maxRecDepth 100000 in
theorem add_any (h:WM w κ wb tv bv er a0 v ns) (hn:ns.length<100000) (k:Nat) (hk:KS w kv xs) (hx:xs.length<=1000) :
 Calls Tryz.prog 68 #[.pointer (some ⟨wb,1,none⟩),.int .i64 (k:Nat),kv] w (AP κ wb tv bv er a0 ns k xs w):=by
 obtain⟨i0,h4,h2,k7,h7⟩:=info_parts Tryz.kiN;have HM:=jH h;have HK:=jH (hk.on ((Ko w.heap.size w).alloc jN (.cells #[] 3 (0,0))));have HV:=jH (show ∀b,v.ownBlock=some b->b≠wb from fun b hb e=>by have:=h.gm.row.tag b hb;rw[e,h.gm.tg]at this;cases this);obtain⟨ka,kc,k4⟩:=hk.slice;subst k4;obtain⟨R,I,hv,_⟩:=h.gm.form;have U:=jH hv;have c1:w.cell? ⟨wb,1,none⟩=some (.slice R ns.length I):=by rw[<-hv];exact h.gm.at'
 have hl:=h.gm.lt
 obtain⟨n,B⟩:∃n,ns.length=n:=⟨_,rfl⟩
 have Y:=jH B;rw[B]at c1 hn;clear h hk hv B
 go_enter Tryz.func68,Tryz.ntmps68
 go_upto_region 3 with(at_builtin;refine jwX rfl (.tmp 14) (.tmp 15) rfl (g:=w.heap.size) rfl (heap_alloc_new w _) rfl HK.o hx ?_;intro v1 w1 H K Z;obtain⟨C,h1,q5⟩:=jJb HM.o K;have d1:=ja C 1 rfl;obtain⟨h5,h3,h9⟩:=j5 H;subst h9)
 have q7:w1.cell? ⟨wb,1,none⟩=some (.slice R n I):=by
  have:w1.cell? ⟨wb,1,none⟩=some v:=d1;rw[this,U.o,Y.o]
 have O:w1.ownsRow 0 101 3 (.slice R n I) n (ns.flatMap nmC):=by
  have:=h1;rw[U.o,Y.o]at this;exact this
 have q6:wb<w1.heap.size:=by omega
 have k9:=jH (show ∀b,(Value.slice R n I).ownBlock=some b->b≠wb from by have:=HV.o;rw[U.o,Y.o]at this;exact this);have k1:=jH C;have k5:=jH O;have q4:=jH H;have h8:=jH K;have h6:=jH Z;clear d1 h1 O C H K Z c1 HV
 go_wp2_with (at_builtin;refine JO _ rfl (.tmp 21) (.tmp 26) 41 rfl 0 101 i0 _ 3 40 Tryz.kuN h4 h2 k7 h7 rfl (by decide) (.slice R n I) n (ns.flatMap nmC) rfl (k5.o.alloc _) ⟨w1.heap.size,0,none⟩ 1 1 [.int .i64 (k:Nat),.slice h5 xs.length h3,.int .i64 (n:Nat)] rfl rfl (Ja _ _ _ _ rfl) ?_ ?_ ?_ ?_ ?_;(intro u hu;simp at hu;rcases hu with rfl|rfl|rfl <;> rfl);(unfold maxLen;omega);omega;(exact Yi _);intro v3 w3 F A h0;have E:=jAx (κ:=κ) k1.o k9.o A;obtain⟨g,cap,k2,_⟩:=jaf F (by omega);subst k2;have d3:=ja E 1 rfl;have e3:=je E 1;have q8:=jb E)
 go_returns;have B:=Y.o;subst B;have hh:=h6.o;have k8:=U.o;rw[<-k8]at A h0
 obtain⟨κ',hm,hf⟩:=jJc (k:=k) (cap:=cap) (g:=g) HM.o hn hx q4.o h8.o hh F A (by
  rcases h0 with e|e
  .exact .inl e.symm
  .refine .inr ?_
   rw[Ya]at e
   exact Uf e)
 exact⟨rfl,κ',_,_,hm,hf⟩
theorem KS.app (h:w.ownsRow b 3 1 v xs.length (iV xs)):KS w v xs:=by
 rcases h.2 with⟨A,B⟩|⟨g,cap,C,A,_⟩
 .exact .inl ⟨A,Yh B⟩
 .exact .inr ⟨⟨g,0,none⟩,cap,A,h.cells (g:=g) (by rw[A];rfl)⟩
theorem WM.on {w W:World}{κ:Kp}{wb:Nat}{tv bv:Value}{er a0:Int}{v:Value}{ns:List NM}(h:WM w κ wb tv bv er a0 v ns) (A:Below w.heap.size w W):WM W κ wb tv bv er a0 v ns:=
 ⟨(A.block wb h.gm.lt).trans h.blk,h.gm.on A⟩
theorem AP.back {e:Ending}(B:Below w.heap.size w W) (h:AP κ wb tv bv er a0 ns k xs W e w'):AP κ wb tv bv er a0 ns k xs w e w':=by
 obtain⟨F,E,H,A,I,C⟩:=h;exact⟨F,E,H,A,I,(Fr.of B).trans C⟩
set_option maxRecDepth 100000 in
theorem jud (h:WM w κ wb tv bv er a0 v ns) (hn:ns.length<100000) (hk:KS w kv xs) (hx:xs.length<1000) (y:Int) :
 Calls Tryz.prog 117 #[.pointer (some ⟨wb,1,none⟩),kv,.int .i64 y] w (AP κ wb tv bv er a0 ns 6 (xs ++[y]) w):=by
 obtain⟨i0,Y,R,h9,h2⟩:=info_parts Tryz.kiI;have HM:=jH h;have HK:=jH (hk.on ((Ko w.heap.size w).alloc jN (.cells #[] 3 (0,0))));obtain⟨ka,kc,h7⟩:=hk.slice;subst h7;clear h hk
 go_enter Tryz.func117,Tryz.ntmps117
 go_upto_region 2 with(at_builtin;refine jwX rfl (.tmp 8) (.tmp 9) rfl (g:=w.heap.size) rfl (heap_alloc_new w _) rfl HK.o (by omega) ?_;intro v1 w1 C F E;obtain⟨K,I,h3⟩:=j5 C;subst h3)
 have h0:=F.size;rw[Ya]at h0 E;have H:Below w.heap.size w w1:=(jB.alloc jN _).grown F (by rw[Ya];omega) (fun k hk=>by cases hk;omega);have h5:=jH H;have k1:=jH C
 have U:=jH (show ∀b,(Value.slice K xs.length I).ownBlock=some b->w.heap.size<=b from fun b hb=>by
  rcases E with e|e <;> rw[e]at hb <;> cases hb <;> omega)
 clear C F E H
 go_wp2_with (first
  |(at_builtin;refine JO _ rfl (.tmp 11) (.tmp 13) 56 rfl 0 3 i0 _ 1 8 Tryz.kuI Y R h9 h2 rfl (by decide) (.slice K xs.length I) xs.length (iV xs) rfl (k1.o.alloc _) ⟨w1.heap.size,0,none⟩ 1 1 [.int .i64 y] rfl rfl (Ja _ _ _ _ rfl) ?_ ?_ ?_ ?_ ?_;(intro u Z;simp at Z;subst Z;rfl);(unfold maxLen;omega);omega;(exact Yi _);intro v3 w3 A B h8;obtain⟨g,cap,h4,_⟩:=jaf A (by omega);subst h4;have O:=jH (show Below w.heap.size w w3 from(h5.o.alloc (by omega) _).grown B (by rw[Ya];omega) U.o);have h6:=jH A;clear A B h8)
  |(go_at_call 68;refine(add_any (HM.o.on O.o) hn 6 (KS.app (xs:=xs ++[y]) (b:=0) (by have:=h6.o;unfold iV;rw[Km,Yg];exact this)) (by rw[Yg];show xs.length+1<=_;omega)).mono ?_;rintro _ w4 ⟨rfl,h1⟩))
 go_returns;exact AP.back O.o ⟨rfl,h1⟩
theorem jJf {x:Int}(hk:KS w kv [x]) :
 Calls Tryz.prog 115 #[.pointer (some ⟨wb,1,none⟩),kv] w fun e w'=>e= .returned (.int .i64 x)/\w'=w:=by
 obtain⟨A,c,rfl,C⟩:∃(A:Addr) (c:Nat),kv= .slice (some A) 1 c/\w.cell? A=some (.int .i64 x):=by
  rcases hk with⟨_,h⟩|⟨A,c,B,E⟩
  .cases h
  .exact⟨A,c,B,by simpa[Addr.add] using E 0 _ rfl⟩
 obtain⟨b,o,p⟩:=A;have F:=World.block_lt_of_cell? w _ C;clear hk
 go_enter Tryz.func115,Tryz.ntmps115
 go_wp2
 go_returns;exact⟨rfl,rfl⟩
theorem jAy (h:WM w κ wb tv bv er a0 v ns) (H:ns.length<100000) (hk:KS w kv xs) (A:xs.length<=1000) (B:xs.length≠1) :
 Calls Tryz.prog 115 #[.pointer (some ⟨wb,1,none⟩),kv] w (AP κ wb tv bv er a0 ns 5 xs w):=by
 have I:=jH (add_any h H 5 hk A);obtain⟨O,kc,F⟩:=hk.slice;subst F
 obtain⟨m,C⟩:∃m,xs.length=m:=⟨_,rfl⟩
 rw[C]at I B A ⊢;have u1:((m:Int) == 1)=false:=by rw[Kl];omega
 clear h hk C B
 go_enter Tryz.func115,Tryz.ntmps115
 go_wp2_with (go_at_call 68;refine I.o.mono ?_;rintro _ K ⟨rfl,E⟩)
 go_returns;exact⟨rfl,E⟩
def bdC (b:Inf.Bd):List Value:=[.string b.x,.int .i64 b.p,.int .i64 (b.t:Nat),.int .i64 b.o]
structure BM (w:World) (κ:Kp) (bv:Value) (bs:List Inf.Bd):Prop where
 row:TR w κ (4,0) 72 4 bv bs.length (bs.flatMap bdC)
 big:bs.length<=100000
 out:∀(i:Nat) (b:Inf.Bd),bs[i]? =some b->-1<=b.o/\b.o<(i:Nat)
variable {bs:List Inf.Bd}
theorem BM.on (h:BM w κ bv bs) (A:Below w.heap.size w W):BM W κ bv bs:=
 ⟨h.row.keep (S:=fun _=>False) (.of A) id,h.big,h.out⟩
theorem BM.cells (h:BM w κ bv bs) {b:Inf.Bd}(hi:bs[i]? =some b):∃g cap,bv= .slice (some ⟨g,0,none⟩) bs.length cap/\bs.length<=cap/\g<w.heap.size/\w.cell? ⟨g,i*4,none⟩=some (.string b.x)/\w.cell? ⟨g,i*4+1,none⟩=some (.int .i64 b.p)/\w.cell? ⟨g,i*4+2,none⟩=some (.int .i64 (b.t:Nat))/\w.cell? ⟨g,i*4+3,none⟩=some (.int .i64 b.o):=by
 have E:=(jG hi).1;obtain⟨g,cap,e,C,_,B⟩:=h.row.at (by omega);have A:=h.row;rw[e]at A;exact⟨g,cap,e,C,B,A.cell (JR (f:=bdC) (c:=4) (fun _=>rfl) hi (k:=0) (by omega)),A.cell (JR (f:=bdC) (c:=4) (fun _=>rfl) hi (k:=1) (by omega)),A.cell (JR (f:=bdC) (c:=4) (fun _=>rfl) hi (k:=2) (by omega)),A.cell (JR (f:=bdC) (c:=4) (fun _=>rfl) hi (k:=3) (by omega))⟩
theorem jEE {x:ByteArray}{o:Int}(h:o<0):∀f,Inf.named bs x f o=none
 |0=>rfl
 |f+1=>by unfold Inf.named;rw[if_pos h]
theorem jED {x:ByteArray}{f:Nat}{b:Inf.Bd}(A:bs[i]? =some b) (B:i<f):∃f',f=f'+1/\Inf.named bs x f (i:Nat)=if b.x=x then some b.t else Inf.named bs x f' b.o:=by
 obtain⟨f',rfl⟩:∃f',f=f'+1:=⟨f-1,by omega⟩
 refine⟨f',rfl,?_⟩
 conv=>lhs;unfold Inf.named
 rw[if_neg (by omega)];simp only[Int.toNat_natCast,A]
def QP (κ:Kp) (wb:Nat) (tv bv:Value) (v:Value) (ns:List NM) (p:Int) (R:Option Nat) (w:World) (e:Ending) (w':World):Prop:=
 (∃t:Nat,R=some t/\e= .returned (.int .i64 (t:Nat))/\Below w.heap.size w w')\/
 (R=none/\e= .returned (.int .i64 (-1))/\WM w' κ wb tv bv 6 p v ns/\Fr (· =(0,0)) κ κ w w')
set_option maxRecDepth 100000 in
theorem named_any (h:WM w κ wb tv bv er a0 v ns) (K:BM w κ bv bs) (x:ByteArray) (p o:Int) (ho: -1<=o) (I:o<(bs.length:Nat)) :
 Calls Tryz.prog 113 #[.pointer (some ⟨wb,0,none⟩),.string x,.int .i64 p,.int .i64 o] w (QP κ wb tv bv v ns p (Inf.named bs x (bs.length+1) o) w):=by
 have HM:=jH h;have HB:=jH K
 obtain⟨R,hR⟩:∃R,Inf.named bs x (bs.length+1) o=R:=⟨_,rfl⟩
 have HR:=jH hR;rw[hR];have h7:=K.big;obtain⟨ba,bc,Z,_⟩:=K.row.any;have HV:=jH Z
 obtain⟨n,hn⟩:∃n,bs.length=n:=⟨_,rfl⟩
 have Y:=jH hn;rw[hn]at h7 I;have hl:=h.gm.lt;clear h K hR Z hn
 go_enter Tryz.func113,Tryz.ntmps113
 go_wp2_with fail
 go_loopg [3] ((o+1).toNat) (fun gh s3 (wr:World)=>∃(oi:Int) (f:Nat),-1<=oi/\oi<(n:Nat)/\gh=(oi+1).toNat/\s3= .int .i64 oi/\oi<(f:Nat)/\Inf.named bs x f oi=R/\Below w.heap.size w wr)
 case atStart=>exact⟨o,n+1,ho,I,rfl,rfl,by omega,by rw[<-Y.o];exact HR.o,jB⟩
 case round=>
  obtain⟨oi,f,h1,h2,k4,rfl,hf,A,hw⟩:=hrel;have H:=jH hw;have F:=(hw.block wb hl).trans HM.o.blk;have c2:wr.cell? ⟨wb,2,none⟩=some (.slice ba n bc):=by have:=ja F 2 rfl;rw[<-Y.o,<-HV.o];exact this
  have k2:=jb F;clear F hw
  by_cases h0:0<=oi
  .obtain⟨i,rfl⟩:∃i:Nat,oi=(i:Nat):=⟨oi.toNat,by omega⟩
   have u1:decide ((0:Int)<=(i:Nat))=true:=by simp
   have u2:((i:Nat):Int)<(n:Int):=h2
   obtain⟨b,O⟩:∃b,bs[i]? =some b:=⟨_,Yb (by rw[Y.o];omega)⟩
   obtain⟨g,cap,e,h3,h4,d0,d1,d2,d3⟩:=(HB.o.on H.o).cells O;have e':=HV.o.symm.trans e;rw[Y.o]at e' h3;cases e';obtain⟨f',k1,h6⟩:=jED (x:=x) O (by omega:i<f);rw[h6]at A;have E:=HB.o.out i b O;obtain⟨bx,bp,bt,bo⟩:=b;simp only at d0 d1 d2 d3 A E;have C:=jH A;have h5:=jH (show ∀ob:Obj,Below w.heap.size w (wr.alloc ob)from fun ob=>H.o.alloc H.o.size ob);clear h6 A O e h1 h2 h0
   by_cases U:bx=x
   .subst U
    have B:=jH (show R=some bt by have:=C.o;rw[if_pos rfl]at this;exact this.symm);clear C
    go_wp2_with fail
    go_returns;exact .inl ⟨bt,B.o,rfl,h5.o _⟩
   .have q2:(bx.toList == x.toList)=false:=by
     rw[Kl,Ye,Ye];exact fun h=>U (ByteArray.ext (Array.toList_inj.mp h))
    have B:=jH (show Inf.named bs x f' bo=R by have:=C.o;rw[if_neg U]at this;exact this);clear C U
    go_wp2_with fail
    go_roundg ((bo+1).toNat)
    case measure=>omega
    case rel=>
     refine⟨bo,f',E.1,by omega,rfl,rfl,by omega,B.o,h5.o _⟩
  .have u1:decide ((0:Int)<=oi)=false:=by simpa using h0
   have e:R=none:=by rw[<-A];exact jEE (by omega) _
   subst e;clear A
   go_wp2_with (go_at_call 110;refine(fail_any (HM.o.on H.o) 6 p).mono ?_;rintro _ w2 ⟨rfl,h9,h8⟩)
   go_returns;exact .inr ⟨rfl,rfl,h9,(Fr.of H.o).trans h8⟩
theorem KS.tail {x:Int}(h:w.ownsRow 0 3 1 (.slice (some ⟨g,0,none⟩) (xs.length+1) cap) (xs.length+1) (iV (x ::xs))) (c:Nat):KS w (.slice (some ⟨g,1,none⟩) xs.length c) xs:=by
 refine .inr ⟨_,_,rfl,fun j u hj=>?_⟩;have:=h.cells (g:=g) rfl (j+1) u (by unfold iV at hj ⊢;rw[Kt,List.getElem?_cons_succ];exact hj);rw[addr_add]at this;rw[jmX,show 1+j=j+1 by omega];exact this
theorem AP.own {e:Ending}(h:AP κ wb tv bv er a0 ns k xs w e w') (A:b<w.heap.size) (hk:∀t,κ b=some t->t≠(0,0)/\t≠(1,0)):w'.heap[b]? =w.heap[b]?:=by
 obtain⟨_,E,F,C,_,B⟩:=h
 exact B.rest b A (fun t ht e=>by
  rcases e with e|e
  .exact(hk t ht).1 e
  .exact(hk t ht).2 e)
theorem jzg {x:Int}{ys:List Int}(hk:w.ownsRow 0 3 1 (.slice (some ⟨g,0,none⟩) (xs.length+1) cap) (xs.length+1) (iV (x ::xs))) (B:g<w.heap.size) (A:∀t,κ g=some t->t≠(0,0)/\t≠(1,0)) :
 ∀(W:World) (e:Ending) (w':World),Below w.heap.size w W->AP κ wb tv bv er a0 ns 6 ys W e w'->w'.cell? ⟨g,0,none⟩=some (.int .i64 x):=by
 intro W e w' C E;have c0:w.cell? ⟨g,0,none⟩=some (.int .i64 x):=by have:=hk.cells (g:=g) rfl 0 _ rfl;rw[addr_add]at this;exact this
 exact(Ke (w:=W) (a:=⟨g,0,none⟩) (E.own (Yj B C.size) A)).trans ((C.cell (p:=⟨g,0,none⟩) B).trans c0)
set_option maxRecDepth 100000 in
theorem jFy (h:WM w κ wb tv bv er a0 v ns) (he:er≠0) (Z:ns.length<100000) {x:Int}(hk:w.ownsRow 0 3 1 kv (xs.length+1) (iV (x ::xs))) (h0:0<xs.length) (K:xs.length<1000)
 (E:∀b,kv.ownBlock=some b->∀t,κ b=some t->t≠(0,0)/\t≠(1,0)) (y p:Int) :
 Calls Tryz.prog 116 #[.pointer (some ⟨wb,0,none⟩),kv,.int .i64 y,.int .i64 p] w fun e w'=>e= .returned (.tuple #[])/\∃κ' v' kv',WM w' κ' wb tv bv er a0 v' (ns ++[⟨6,xs ++[y],ns.length,kv'⟩])/\Fr (fun t=>t=(0,0)\/t=(1,0)) κ κ' w w':=by
 obtain⟨g,cap,rfl,_,hg,hc,_⟩:=jaf hk (by omega);have R:=jH (show ∀(c:Nat) (W:World),Below w.heap.size w W->Calls Tryz.prog 117 #[.pointer (some ⟨wb,1,none⟩),.slice (some ⟨g,1,none⟩) xs.length c,.int .i64 y] W (AP κ wb tv bv er a0 ns 6 (xs ++[y]) W)from fun c W hW=>jud (h.on hW) Z ((KS.tail hk c).on hW) K y);have HC:=jH (jzg hk hg (E g rfl) (wb:=wb) (tv:=tv) (bv:=bv) (er:=er) (a0:=a0) (ns:=ns) (ys:=xs ++[y]));have hl:=h.gm.lt;have HE:=jH he
 obtain⟨m,U⟩:∃m,xs.length=m:=⟨_,rfl⟩
 rw[U]at R K h0 hc ⊢;have u0:(((m+1:Nat):Int) == 0)=false:=by rw[Kl];omega
 have u1:(1:Nat)<cap:=by omega
 have u2:(1:Int)<=(m:Int)+1:=by omega
 have u3:¬(cap=1):=by omega
 haveI:=Wd.ne;clear h hk E U he
 go_enter Tryz.func116,Tryz.ntmps116
 go_upto_region 1 with fail
 refine jP 6 8 (by kernel_rfl) (by kernel_rfl) (by decide) ?_;simp only[TkD]
 iterate 6
  apply jd (by decide) (by rfl)
  .intro O;go_simp;all_goals with_reducible rfl
  simp only[Act.put,SsT]
 refine js ?_;intro O;have A:=jH O.h
 go_wp2_with (first
  |(go_at_call 117;refine(R.o _ _ A.o).mono ?_;rintro _ w1 B;have c0:=HC.o _ _ _ A.o B;have h3:=jH B;obtain⟨rfl,κ1,v1,h1,I,H⟩:=B;have F:=jH I;have Y:=jH ((Fr.of A.o).trans H);have h2:=World.block_lt_of_cell? w1 _ c0;clear I H)
  |(go_at_call 90;refine(jzZ F.o HE.o x _ p).mono ?_;rintro _ w2 ⟨rfl,C⟩;have C:=C.symm;subst C))
 go_returns;exact⟨rfl,κ1,v1,h1,F.o,Y.o⟩
theorem jv5 {m:NM}(h:i<ns.length):fnN (ns ++[m]) i=fnN ns i:=by
 unfold fnN;rw[Kb h]
theorem jv6 {m:NM}(h:ns.length<=i) (B:m.f=ns.length):fnN (ns ++[m]) i=i:=by
 unfold fnN;rw[Ud h];rcases Kg (i-ns.length) 1 with A|A
 .rw[show i-ns.length=0 by omega]
  show m.f=i;omega
 .rw[Ue (by simpa using A)]
  rfl
theorem jr5 {α:Type}{l:List α}{m c:α}(h:(l ++[m])[i]? =some c):l[i]? =some c\/(i=l.length/\c=m):=by
 rw[List.getElem?_append]at h
 split at h
 .exact .inl h
 .rcases Kg (i-l.length) 1 with h1|h1
  .rw[show i-l.length=0 by omega]at h
   cases h;exact .inr ⟨by omega,rfl⟩
  .rw[Ue (by simpa using h1)]at h;cases h
theorem WN.add (h:WN ns) (k:Nat) (kv:Value) (B:∀z ∈ xs,0<=z/\z<(ns.length:Nat)):WN (ns ++[⟨k,xs,ns.length,kv⟩]):=by
 refine⟨fun i m hi=>?_,fun i=>?_,fun i m hi z hz=>?_⟩
 .rw[Yg]
  show _<_+1
  rcases jr5 hi with hi|⟨_,rfl⟩
  .have:=h.lt i m hi;omega
  .show ns.length<_;omega
 .rcases Kg i ns.length with h1|h1
  .rw[jv5 h1]
   have A:ns[i]? =some ns[i]:=Yb h1
   have C:fnN ns i<ns.length:=by
    have:=h.lt i _ A;unfold fnN;rw[A];exact this
   rw[jv5 C];exact h.idm i
  .rw[jv6 h1 rfl,jv6 h1 rfl]
 .rw[Yg]
  show 0<=z/\z<((_+1:Nat):Int)
  rcases jr5 hi with hi|⟨_,rfl⟩
  .have:=h.kid i m hi z hz;omega
  .have:=B z hz;omega
set_option maxRecDepth 100000 in
theorem jFz (h:WM w κ wb tv bv 0 a0 v ns) (A:WN ns) (hn:ns.length<100000) (hk:w.ownsRow 0 3 1 kv (xs.length+1) (iV ((x:Int) ::xs))) (C:x<ns.length) (F:∀z ∈ xs,0<=z/\z<(ns.length:Nat)) (h0:0<xs.length) (U:xs.length<1000)
 (H:∀b,kv.ownBlock=some b->∀t,κ b=some t->t≠(0,0)/\t≠(1,0)) (y:Int) (R:0<=y/\y<(ns.length:Nat)) (p:Int) :
 Calls Tryz.prog 116 #[.pointer (some ⟨wb,0,none⟩),kv,.int .i64 y,.int .i64 p] w fun e w'=>∃κ1 v1 kv1 w1,Fr (fun t=>t=(0,0)\/t=(1,0)) κ κ1 w w1/\DP κ1 wb tv bv a0 p v1 (ns ++[⟨6,xs ++[y],ns.length,kv1⟩]) x ns.length w1 e w':=by
 obtain⟨g,cap,rfl,_,hg,hc,_⟩:=jaf hk (by omega);have CA:=jH (show ∀(c:Nat) (W:World),Below w.heap.size w W->Calls Tryz.prog 117 #[.pointer (some ⟨wb,1,none⟩),.slice (some ⟨g,1,none⟩) xs.length c,.int .i64 y] W (AP κ wb tv bv 0 a0 ns 6 (xs ++[y]) W)from fun c W A=>jud (h.on A) hn ((KS.tail hk c).on A) U y);have HC:=jH (jzg hk hg (H g rfl) (wb:=wb) (tv:=tv) (bv:=bv) (er:=0) (a0:=a0) (ns:=ns) (ys:=xs ++[y]));have hl:=h.gm.lt
 have h1:=jH (show ∀kv1,WN (ns ++[⟨6,xs ++[y],ns.length,kv1⟩])from fun kv1=>A.add 6 kv1 (fun z I=>by
  rw[Yq,Kf]at I;rcases I with I|rfl
  .exact F z I
  .exact R))
 have HX:=jH C
 obtain⟨m,hm⟩:∃m,xs.length=m:=⟨_,rfl⟩
 rw[hm]at CA U h0 hc ⊢;have u0:(((m+1:Nat):Int) == 0)=false:=by rw[Kl];omega
 have u1:(1:Nat)<cap:=by omega
 have u2:(1:Int)<=(m:Int)+1:=by omega
 have u3:¬(cap=1):=by omega
 haveI:=Wd.ne;clear h hk H hm A C F R
 go_enter Tryz.func116,Tryz.ntmps116
 go_upto_region 1 with fail
 refine jP 6 8 (by kernel_rfl) (by kernel_rfl) (by decide) ?_;simp only[TkD]
 iterate 6
  apply jd (by decide) (by rfl)
  .intro Y;go_simp;all_goals with_reducible rfl
  simp only[Act.put,SsT]
 refine js ?_;intro Y;have B:=jH Y.h
 go_wp2_with (first
  |(go_at_call 117;refine(CA.o _ _ B.o).mono ?_;rintro _ w1 E;have c0:=HC.o _ _ _ B.o E;have h5:=jH E;obtain⟨rfl,κ1,v1,kv1,O,K⟩:=E;have Z:=jH O;have h3:=jH ((Fr.of B.o).trans K);have h4:=World.block_lt_of_cell? w1 _ c0;clear O K)
  |(go_at_call 90;refine(jz0 Z.o (h1.o kv1) (x:=x) (y:=ns.length) (by rw[Yg];have:=HX.o;omega) (by rw[Yg];show _<_+1;omega) p).mono ?_;rintro _ w2 ⟨rfl,h2⟩))
 go_returns;exact⟨κ1,v1,kv1,w1,h3.o,rfl,h2⟩
theorem Tryz.kiB:(Tryz.prog.info? 72).map (fun i=>(i.zero,i.size,i.bytes))=some (some (.agg #[.string ⟨#[]⟩,.int .i64 0,.int .i64 0,.int .i64 0]),4,40):=by kernel_rfl
theorem Tryz.kuB:Tryz.prog.underlying 44=some (.slice 72):=by kernel_rfl
theorem jIO {b:Inf.Bd}(h:WM w κ wb tv bv er a0 v ns) (hB:BM w κ bv bs) (hn:bs.length<100000) (ho: -1<=b.o/\b.o<(bs.length:Nat))
 (h1:w3.ownsRow 0 72 4 (.slice (some ⟨g,0,none⟩) (bs.length+1) cap) (bs.length+1) (bs.flatMap bdC ++bdC b))
 (K:(w.alloc (.cells (bdC b).toArray 72 (0,0))).drew.grownBy w3 bv.ownBlock) (h0:bv.ownBlock=some g\/g=w.heap.size+1) :
 ∃κ',WM (w3.setCell ⟨wb,2,none⟩ (.slice (some ⟨g,0,none⟩) (bs.length+1) cap)) κ' wb tv (.slice (some ⟨g,0,none⟩) (bs.length+1) cap) er a0 v ns/\
  BM (w3.setCell ⟨wb,2,none⟩ (.slice (some ⟨g,0,none⟩) (bs.length+1) cap)) κ' (.slice (some ⟨g,0,none⟩) (bs.length+1) cap) (bs ++[b])/\
  Fr (fun t=>t=(0,0)\/t=(4,0)) κ κ' w (w3.setCell ⟨wb,2,none⟩ (.slice (some ⟨g,0,none⟩) (bs.length+1) cap)):=by
 obtain⟨O,I⟩:∃O,(w.alloc (.cells (bdC b).toArray 72 (0,0))).drew=O:=⟨_,rfl⟩
 have H:Below w.heap.size w O:=by rw[<-I];exact(jB.alloc jN _).drew
 have h5:O.heap.size=w.heap.size+1:=by rw[<-I];show(w.alloc _).heap.size=_;rw[Ya]
 rw[I]at K;have A:=h.on H;have h3:=hB.on H;have h6:Fr (fun t=>t=(0,0)\/t=(4,0)) κ κ w O:=.of H
 obtain⟨U,h2,B,Y⟩:=h3.row.app h1 K (by
  rcases h0 with e|e
  .exact .inl e.symm
  .exact .inr (by rw[h5,e];rfl))
 have h7:=B.low.size;have Z:w3.heap[wb]? =some (.cells #[tv,v,bv,.int .i64 er,.int .i64 a0] 70 (0,0)):=(B.rest wb A.gm.lt (fun t ht e=>by rw[A.gm.tg]at ht;cases ht;cases e)).trans A.blk;have R:U wb=some (0,0):=(B.old wb A.gm.lt).trans A.gm.tg
 obtain⟨E,h4⟩:∃E,Value.slice (some ⟨g,0,none⟩) (bs.length+1) cap=E:=⟨_,rfl⟩
 rw[h4]at h2 ⊢;have C:(w3.setCell ⟨wb,2,none⟩ E).heap[wb]? =some (.cells #[tv,v,E,.int .i64 er,.int .i64 a0] 70 (0,0)):=jf Z 2 E;have F:Fr (· =(0,0)) U U w3 (w3.setCell ⟨wb,2,none⟩ E):=Fr.lone ((jn4.refl wb w3).set 2 E) R rfl;refine⟨U,⟨C,⟨ja C 1 rfl,jb C,(A.gm.row.keep B (by intro e;cases e)).keep F (by intro e;cases e),fun i m hi=>((A.gm.kds i m hi).keep B (by intro e;cases e)).keep F (by intro e;cases e),h.gm.big,R,?_,h.gm.kb⟩⟩,⟨?_,?_,?_⟩,(h6.trans (B.mono (fun t e=>.inr e))).trans (F.mono (fun t e=>.inl e))⟩
 .intro p hp
  rw[jy]at hp;rw[Y p hp];exact h.gm.top p (by omega)
 .have:=h2.keep F (by intro e;cases e)
  rw[Yg,List.flatMap_append,show[b].flatMap bdC=bdC b by simp];exact this
 .rw[Yg];show bs.length+1<=_;omega
 .intro i c hi
  rcases jr5 hi with hi|⟨rfl,rfl⟩
  .exact hB.out i c hi
  .exact ho
theorem BM.keep {S:Tag->Prop}{w W:World}{κ A:Kp}{bv:Value}{bs:List Inf.Bd}(h:BM w κ bv bs) (B:Fr S κ A w W) (hs:¬S (4,0)):BM W A bv bs:=⟨h.row.keep B hs,h.big,h.out⟩
def scI (k:Nat) (o:Int) (j:Nat):Int:=if j=0 then o else((k+j-1:Nat):Int)
def bdI (xs:List ByteArray) (p:Int) (t k:Nat) (o:Int) (j:Nat):Inf.Bd:=⟨(xs[j]?).getD ⟨#[]⟩,p,t+j,scI k o j⟩
def bdL (xs:List ByteArray) (p:Int) (t k:Nat) (o:Int) (i:Nat):List Inf.Bd:=(List.range i).map (bdI xs p t k o)
def kdL (t i:Nat):List Int:=(List.range i).map fun j=>((t+j:Nat):Int)
theorem jIW (xs:List ByteArray) (p:Int) (t k:Nat) (o:Int) (i:Nat):bdL xs p t k o (i+1)=bdL xs p t k o i ++[bdI xs p t k o i]:=by
 unfold bdL;rw[List.range_succ,Km];rfl
theorem jt6 (xs:List ByteArray) (p:Int) (t k:Nat) (o:Int) (i:Nat):(bdL xs p t k o i).length=i:=by unfold bdL;simp
theorem jFp (t i:Nat):kdL t (i+1)=kdL t i ++[((t+i:Nat):Int)]:=by
 unfold kdL;rw[List.range_succ,Km];rfl
theorem jqx (t i:Nat):(kdL t i).length=i:=by unfold kdL;simp
def Opn (ns ns':List NM) (i:Nat):Prop:=∃zs,ns'=ns ++zs/\zs.length=i/\∀(j:Nat) (m:NM),zs[j]? =some m->m.k=0/\m.xs=[]/\m.f=ns.length+j
theorem Opn.refl (ns:List NM):Opn ns ns 0:=⟨[],by simp,rfl,fun j m h=>by simp at h⟩
theorem Opn.len {A:List NM}(h:Opn ns A i):A.length=ns.length+i:=by
 obtain⟨C,rfl,B,_⟩:=h;rw[Yg,B]
theorem Opn.succ {A:List NM}(h:Opn ns A i) (kv:Value):Opn ns (A ++[⟨0,[],A.length,kv⟩]) (i+1):=by
 obtain⟨B,rfl,E,F⟩:=h;refine⟨B ++[⟨0,[],(ns ++B).length,kv⟩],by rw[Yu],by rw[Yg,E];rfl,fun j m C=>?_⟩
 rcases jr5 C with C|⟨rfl,rfl⟩
 .exact F j m C
 .exact⟨rfl,rfl,by show(ns ++B).length=_;rw[Yg]⟩
def Oth (κ:Kp) (w w':World):Prop:=w.heap.size<=w'.heap.size/\∀b,b<w.heap.size->κ b≠none->w'.heap[b]? =w.heap[b]?
theorem TR.other {t:Tag}{e:TypeId}{sz:Nat}{xs:List Value}(h:TR w κ t e sz v n xs) (hk:Oth κ w w'):TR w' κ t e sz v n xs:=
 ⟨j3 h.own (fun b hb=>hk.2 b (h.own.lt b hb).2 (by rw[h.tag b hb];intro e;cases e)),h.tag⟩
theorem WM.other {w w':World}{κ:Kp}{wb:Nat}{tv bv:Value}{er a0:Int}{v:Value}{ns:List NM}(h:WM w κ wb tv bv er a0 v ns) (hk:Oth κ w w'):WM w' κ wb tv bv er a0 v ns:=by
 have A:=(hk.2 wb h.gm.lt (by rw[h.gm.tg];intro e;cases e)).trans h.blk;exact⟨A,⟨ja A 1 rfl,jb A,h.gm.row.other hk,fun i m hi=>(h.gm.kds i m hi).other hk,h.gm.big,h.gm.tg,fun p hp=>h.gm.top p (Ym hk.1 hp),h.gm.kb⟩⟩
theorem BM.other {w w':World}{κ:Kp}{bv:Value}{bs:List Inf.Bd}(h:BM w κ bv bs) (hk:Oth κ w w'):BM w' κ bv bs:=⟨h.row.other hk,h.big,h.out⟩
theorem Fr.far {S:Tag->Prop}{A:Kp}{w2:World}(h:Fr S κ A w w1) (B:Below w.heap.size w1 w2):Fr S κ A w w2:=
 ⟨h.low.trans (B.mono (Yi _)),h.old,fun b hb hs=>(B.block b hb).trans (h.rest b hb hs)⟩
theorem Oth.grown {O:Obj}(A:(w.alloc O).grownBy w1 v.ownBlock) (B:∀b,v.ownBlock=some b->κ b=none):Oth κ w w1:=by
 have hs:=A.size;rw[Ya]at hs;refine⟨by omega,fun b hb hk=>?_⟩;rw[A.block b (by rw[Ya];omega) (fun e=>hk (B b e.symm)),Kq _ _ _ hb]
structure BI (w:World) (κ:Kp) (wb:Nat) (tv:Value) (a0:Int) (ns:List NM) (bs:List Inf.Bd) (xs:List ByteArray) (p o:Int) (pb:Nat) (PO:Obj) (i:Nat) (kvv:Value) (wr:World) (κi:Kp) (bvi vi:Value) (nsi:List NM):Prop where
 wm:WM wr κi wb tv bvi 0 a0 vi nsi
 bm:BM wr κi bvi (bs ++bdL xs p ns.length bs.length o i)
 op:Opn ns nsi i
 kr:wr.ownsRow (w.heap.size+1) 3 1 kvv i (iV (kdL ns.length i))
 kt:∀b,kvv.ownBlock=some b->κi b=none
 fr:Fr (fun t=>t=(0,0)\/t=(1,0)\/t=(4,0)) κ κi w wr
 po:wr.heap[pb]? =some PO
 pt:κi pb=none
end Tg
namespace Tg
theorem jIY (x:ByteArray) (r:List ByteArray) (p:Int) (t k:Nat) (o:Int) (n:Nat):bdL (x ::r) p t k o (n+1)=⟨x,p,t,o⟩ ::bdL r p (t+1) (k+1) (k:Nat) n:=by
 unfold bdL;rw[List.range_succ_eq_map,Kt,List.map_map]
 congr 1
 apply List.map_congr_left;intro j _;show bdI (x ::r) p t k o (j+1)=bdI r p (t+1) (k+1) (k:Nat) j;unfold bdI scI;rw[List.getElem?_cons_succ,if_neg (by omega),show t+(j+1)=t+1+j by omega]
 congr 1
 split <;> omega
theorem bind_run:∀(xs:List ByteArray) (P:Inf.PS) (p o:Int),P.st=none->P.bind xs p o={P with ts:=P.ts ++List.replicate xs.length ⟨0,[]⟩,bs:=P.bs ++bdL xs p P.n P.bs.length o xs.length}
 |[],P,p,o,_=>by
  unfold Inf.PS.bind bdL;simp
 |x ::r,P,p,o,h=>by
  have B:P.note x p o={P with ts:=P.ts ++[⟨0,[]⟩],bs:=P.bs ++[⟨x,p,P.n,o⟩]}:=by
   unfold Inf.PS.note Inf.PS.add;simp only[h]
  unfold Inf.PS.bind;rw[B,bind_run r _ p _ (by exact h)];have A:(Inf.PS.n {P with ts:=P.ts ++[⟨0,[]⟩],bs:=P.bs ++[⟨x,p,P.n,o⟩]})=P.n+1:=by unfold Inf.PS.n;simp
  rw[A,Yk,jIY];simp only[Yu,Yg,Yk,List.length_nil,List.replicate_succ,Ka,Yx,Kc]
theorem jFB (P:Inf.PS) (xs:List ByteArray) (o:Int):Inf.inn P xs o=scI P.bs.length o xs.length:=by
 unfold Inf.inn scI
 cases xs with
 |nil=>rfl
 |cons x r=>rw[if_neg (by intro e;cases e),if_neg (by rw[Yk];omega)]
end Tg
namespace Inf
inductive Sh:Nat->List ByteArray->List X->Prop where
 |leaf {k:Nat}{xs:List ByteArray}(h:k=1\/k=2\/k=3\/k=4\/k=5\/k=6):Sh k xs []
 |un {k:Nat}{xs:List ByteArray}{a:X}(h:k=13\/k=14\/k=21\/k=22\/k=12):Sh k xs [a]
 |two {k:Nat}{xs:List ByteArray}{a b:X}(h:k=15\/k=16\/k=17\/k=18\/k=10\/k=20\/k=23):Sh k xs [a,b]
 |lt {xs:List ByteArray}{a b:X}(h:xs.length=1):Sh 8 xs [a,b]
 |rc {xs:List ByteArray}{a b:X}(h:1<=xs.length):Sh 9 xs [a,b]
 |three {k:Nat}{xs:List ByteArray}{a b c:X}(h:k=11\/k=24):Sh k xs [a,b,c]
 |many {k:Nat}{xs:List ByteArray}{a:X}{l:List X}(h:k=19\/k=7):Sh k xs (a ::l)
inductive WX:X->Prop where
 |nd {k:Nat}{p:Int}{xs:List ByteArray}{kids:List X}(h:Sh k xs kids) (hk:∀y ∈ kids,WX y):WX (.nd k p xs kids)
section
variable {env:Env}{o:Int}{φ:Nat->Nat}{S:DS}{P:PS}{a b c:X}{p:Int}{xs:List ByteArray}
theorem jsP (A:Wk a) {k:Nat}(h:k=13\/k=14\/k=21\/k=22):Wk (.nd k p xs [a]):=by
 intro env o φ S P C;rcases h with rfl|rfl|rfl|rfl
 .simp only[dW,pW]
  obtain⟨E,B⟩:=jqk A C 1;exact jpS B 1 (fun a A=>by cases A) (fun _=>rfl)
 .simp only[dW,pW]
  obtain⟨E,B⟩:=jqk A C 2;exact jpS B 2 (fun a A=>by cases A) (fun _=>rfl)
 .simp only[dW,pW]
  obtain⟨E,B⟩:=jqk A C 1;exact jpS B 3 (fun a A=>by cases A) (fun _=>rfl)
 .simp only[dW,pW]
  obtain⟨E,B,_,_⟩:=jv3 A C;exact jpS B 1 (fun a A=>by cases A) (fun _=>rfl)
theorem jus (A:Wk a) (F:Wk b) {k:Nat}(h:k=15\/k=16\/k=17):Wk (.nd k p xs [a,b]):=by
 intro env o φ S P C;obtain⟨H,B⟩:=jqk A C 1;obtain⟨I,E⟩:=jqk F (C.go B) 1;rcases h with rfl|rfl|rfl
 .simp only[dW,pW]
  exact jpS (B.trans E) 1 (fun a A=>by cases A) (fun _=>rfl)
 .simp only[dW,pW]
  exact jpS (B.trans E) 1 (fun a A=>by cases A) (fun _=>rfl)
 .simp only[dW,pW]
  exact jpS (B.trans E) 2 (fun a A=>by cases A) (fun _=>rfl)
theorem jAL (B:Wk a) (A:Wk b):Wk (.nd 18 p xs [a,b]):=by
 intro env o φ S P C;obtain⟨H,E⟩:=jqk B C 3;obtain⟨I,F,l2,K⟩:=A env o H _ _ (C.go E);simp only[dW,pW];exact⟨I,E.trans F,l2,K⟩
theorem jAR (R:Wk a) (F:Wk b) (U:Wk c):Wk (.nd 11 p xs [a,b,c]):=by
 intro env o φ S P C;obtain⟨W,H⟩:=jqk R C 2;have K:=C.go H;obtain⟨Z,E,l2,I⟩:=F env o W _ _ K;obtain⟨Y,A,l3,e3⟩:=U env o Z _ _ (K.go E);have O:=A.le;simp only[dW,pW];have B:=jql (p:=c.p) (b':=(pW b o (pP 2 a o P)).1) A.rl A.bk l3 (Yj l2 O) e3 (fun hr=>by rw[A.old _ l2];exact I (A.run hr).1);exact⟨Y,((H.trans E).trans A).trans B,Yj l2 (Ym O B.le),fun hr=>by rw[A.old _ l2];exact I (A.run (B.run hr).1).1⟩
theorem jAQ (O:Wk a) (I:Wk b) (Z:xs.length=1):Wk (.nd 8 p xs [a,b]):=by
 intro env o φ S P C;obtain⟨H,B,n1,l1,F⟩:=jsw p xs env o φ S P C;have E:=C.go B;obtain⟨φ2,A,l2,W⟩:=O env o H _ _ E;have h0:=A.le
 have K:=jql (p:=a.p) (b':=P.n) (b:=S.n) A.rl A.bk l2 (by omega) W (fun hr=>by
  obtain⟨_,q2,_⟩:=F (A.run hr).1;rw[A.old S.n (by omega)];have:=q2 0 (by omega);simp at this
  exact this.symm)
 have R:Cx (upFrom S.n xs env) (inn P xs o) H _ _:=⟨B.rl,B.bk,E.ps,l1,fun hr=>(F hr).1,E.z⟩
 obtain⟨φ4,Y,l4,U⟩:=I _ _ φ2 _ _ ((R.go A).go K);simp only[dW,pW];exact⟨φ4,((B.trans A).trans K).trans Y,l4,U⟩
theorem jAO (F:Wk a) (O:Wk b):Wk (.nd 10 p xs [a,b]):=by
 intro env o φ S P C;obtain⟨Y,B,n1,l1,I⟩:=jsw p xs env o φ S P C;have K:=C.go B;obtain⟨φ2,E,e2⟩:=jqB (k:=5) (xs:=rng S.n xs.length) (ys:=rng P.n xs.length) B.rl B.bk (fun a F=>by rw[n1];exact ju8 a F) (fun hr=>ju7 (I hr).2.1);have C2:=K.go E;obtain⟨φ3,A,l3,e3⟩:=F env o φ2 _ _ C2;have h0:((S.each xs p).put 5 (rng S.n xs.length)).n=S.n+xs.length+1:=by rw[put_n,n1]
 have h1:=A.le
 have R:=jql (p:=a.p) (b':=P.n+xs.length) (b:=S.n+xs.length) A.rl A.bk l3 (by omega) e3 (fun hr=>by
  have U:=(A.run hr).1;have H:=(E.run U).1
  rw[A.old _ (by omega),<-n1,e2 H,(I H).2.2.1])
 have W:Cx (upFrom S.n xs env) (inn P xs o) Y _ _:=⟨B.rl,B.bk,K.ps,l1,fun hr=>(I hr).1,K.z⟩
 obtain⟨φ5,Z,l5,e5⟩:=O _ _ φ3 _ _ (((W.go E).go A).go R);simp only[dW,pW];exact⟨φ5,(((B.trans E).trans A).trans R).trans Z,l5,e5⟩
theorem jAT (H:Wk b):Wk (.nd 12 p xs [b]):=by
 intro env o φ S P C;obtain⟨F,B,n1,l1,E⟩:=jsw p xs env o φ S P C;have I:=C.go B
 have K:Cx (upFrom S.n xs env) (inn P xs o) F _ _:=⟨B.rl,B.bk,I.ps,l1,fun hr=>(E hr).1,I.z⟩
 obtain⟨R,A,l2,O⟩:=H _ _ F _ _ K;have U:=A.le;simp only[dW,pW];refine jpS (B.trans A) 6 (fun a ha=>?_) (fun hr=>?_)
 .rcases Yq.1 ha with ha|ha
  .have:=ju8 a ha;omega
  .rw[Kf]at ha;subst ha;exact l2
 .have hr1:=(A.run hr).1
  rw[Km,O hr,ju7 (φ:=R) (n:=S.n) (fun i hi=>by rw[A.old _ (by omega)];exact(E hr1).2.1 i hi)];rfl
theorem jAM (E:Wk a) (hb:Wk b) (Z:1<=xs.length):Wk (.nd 9 p xs [a,b]):=by
 intro env o φ S P C;obtain⟨φ1,I,n1,l1,O⟩:=jsw p xs env o φ S P C;have U:=C.go I;obtain⟨φ2,B,e2⟩:=jqB (k:=0) (xs:=[]) (ys:=[]) I.rl I.bk (fun a E=>by cases E) (fun _=>rfl);have R:((S.each xs p).put 0 []).n=S.n+xs.length+1:=by rw[put_n,n1]
 obtain⟨φ3,F,e3⟩:=jqB (k:=6) (xs:=rng (S.n+1) (xs.length-1) ++[S.n+xs.length]) (ys:=rng (P.n+1) (xs.length-1) ++[P.n+xs.length]) B.rl B.bk (fun a E=>by
  rw[R];rcases Yq.1 E with E|E
  .have:=ju8 a E;omega
  .rw[Kf]at E;omega) (fun hr=>by
  have A:=(B.run hr).1;obtain⟨_,q2,q3,_⟩:=O A
  rw[Km,ju7 (φ:=φ2) (n:=S.n+1) (m:=P.n+1) (fun i hi=>by
   rw[B.old _ (by omega)];have:=q2 (i+1) (by omega)
   rw[show S.n+1+i=S.n+(i+1) by omega,this];omega)]
  have:φ2 (S.n+xs.length)=P.n+xs.length:=by rw[<-n1,e2 A,q3]
  simp[this])
 have h2:(((S.each xs p).put 0 []).put 6 (rng (S.n+1) (xs.length-1) ++[S.n+xs.length])).n=S.n+xs.length+2:=by rw[put_n,R]
 have W:=jql (p:=p) (a:=S.n) (b:=S.n+xs.length+1) (a':=P.n) (b':=P.n+xs.length+1) F.rl F.bk (by omega) (by omega) (fun hr=>by
  have H:=(F.run hr).1;have A:=(B.run H).1;have:=(O A).2.1 0 (by omega);simp at this;rw[F.old _ (by omega),B.old _ (by omega),this]) (fun hr=>by
  have H:=(F.run hr).1;have A:=(B.run H).1;have hP:((P.bind xs p o).add 0 []).n=P.n+xs.length+1:=by rw[add_run A];unfold PS.n;have:=(O A).2.2.1;unfold PS.n at this;simp[this]
  rw[<-R,e3 H,hP])
 have h3:Cx (upFrom S.n xs env) (inn P xs o) φ1 _ _:=⟨I.rl,I.bk,U.ps,l1,fun hr=>(O hr).1,U.z⟩
 obtain⟨φ5,K,l5,e5⟩:=E _ _ φ3 _ _ (((h3.go B).go F).go W);have h5:=K.le;have h4:((((S.each xs p).put 0 []).put 6 (rng (S.n+1) (xs.length-1) ++[S.n+xs.length])).dem S.n (S.n+xs.length+1) p).n=S.n+xs.length+2:=h2
 have g6:=jql (p:=a.p) (b:=S.n+xs.length) (b':=P.n+xs.length) K.rl K.bk l5 (by omega) e5 (fun hr=>by
  have h1:=(K.run hr).1;have h0:=(W.run h1).1;have H:=(F.run h0).1;have A:=(B.run H).1
  rw[K.old _ (by omega),F.old _ (by omega),<-n1,e2 A,(O A).2.2.1])
 match xs,Z with
 |x ::r,Z=>
  have Y:Cx (env ++[(x,S.n)]) ((P.bs.length:Nat):Int) φ1 (S.each (x ::r) p) (P.bind (x ::r) p o):=⟨I.rl,I.bk,U.ps,fun e he=>by
   rcases Yq.1 he with he|he
   .exact U.el e he
   .rw[Kf]at he;subst he;show S.n<_;rw[n1];simp,fun hr=>(O hr).2.2.2 x r rfl,U.z⟩
  obtain⟨φ7,g7,l7,e7⟩:=hb _ _ φ5 _ _ (((((Y.go B).go F).go W).go K).go g6);have ei:inn P ((x ::r).take 1) o=((P.bs.length:Nat):Int):=by unfold inn;simp
  have eu:upFrom S.n ((x ::r).take 1) env=env ++[(x,S.n)]:=by simp[upFrom]
  simp only[dW,pW,ei,eu];exact⟨φ7,(((((I.trans B).trans F).trans W).trans K).trans g6).trans g7,l7,e7⟩
theorem jAS (E:Wk a) (B:Wk b):Wk (.nd 20 p xs [a,b]):=by
 intro env o φ S P C;obtain⟨K,F,l1,H⟩:=jv3 E C;obtain⟨I,A⟩:=jqk B (C.go F) 1;simp only[dW,pW];exact⟨I,F.trans A,Yj l1 A.le,fun hr=>by rw[A.old _ l1];exact H (A.run hr).1⟩
theorem jAN (E:Wk a) (H:Wk b) (R:Wk c):Wk (.nd 24 p xs [a,b,c]):=by
 intro env o φ S P C;obtain⟨φ1,I,l1,U⟩:=jv3 E C;have K:=C.go I;obtain⟨Y,B⟩:=jqk H K 1;obtain⟨φ3,A,l3,Z⟩:=R env o Y _ _ (K.go B);have F:=Yj l1 B.le;simp only[dW,pW]
 have W:=jql (p:=c.p) (b':=(pE a o P).1) A.rl A.bk l3 (Yj F A.le) Z (fun hr=>by
  have O:=(A.run hr).1
  rw[A.old _ F,B.old _ l1];exact U (B.run O).1)
 exact jpS (((I.trans B).trans A).trans W) 3 (fun a E=>by cases E) (fun _=>rfl)
theorem jAV (A:Wk a) (B:Wk b):Wk (.nd 23 p xs [a,b]):=by
 intro env o φ S P C;obtain⟨H,E⟩:=jqk A C 1;obtain⟨K,F,l2,I⟩:=B env o H _ _ (C.go E);simp only[dW,pW];exact jpS (E.trans F) 4 (fun a A=>by rw[Kf]at A;subst A;exact l2) (fun hr=>by rw[I hr];rfl)
theorem jAK {l:List X}(h:∀x ∈ l,Wk x):Wk (.nd 7 p xs l):=by
 intro env o φ S P C;obtain⟨E,B,l1,A⟩:=jv2 l h φ S P C;simp only[dW,pW];exact jpS B 5 l1 A
theorem jAU {l:List X}(h:∀x ∈ a ::l,Wk x):Wk (.nd 19 p xs (a ::l)):=by
 intro env o φ S P C;obtain⟨φ1,U,l1,O⟩:=jv2 (a ::l) h φ S P C;simp only[dW,pW]
 obtain⟨B,h0⟩:∃B,(dWs (a ::l) env S).2=B:=⟨_,rfl⟩
 obtain⟨K,Y⟩:∃K,(pWs (a ::l) o P).2=K:=⟨_,rfl⟩
 obtain⟨ts,W⟩:∃ts,(dWs (a ::l) env S).1=ts:=⟨_,rfl⟩
 obtain⟨vs,Z⟩:∃vs,(pWs (a ::l) o P).1=vs:=⟨_,rfl⟩
 have h2:∃t r,ts=t ::r:=by rw[<-W,dWs];exact⟨_,_,rfl⟩
 rw[h0]at U l1;rw[Y]at U O;rw[W]at l1 O;rw[Z]at O;rw[h0,Y,W,Z];obtain⟨t,r,rfl⟩:=h2;obtain⟨φ2,F,e2⟩:=jqB (k:=0) (xs:=[]) (ys:=[]) U.rl U.bk (fun a I=>by cases I) (fun _=>rfl);have R:=put_n B 0 []
 obtain⟨φ3,H,e3⟩:=jqB (k:=6) (xs:=r ++[B.n]) (ys:=vs.tail ++[K.n]) F.rl F.bk (fun a I=>by
  rw[R];rcases Yq.1 I with I|I
  .have:=l1 a (Yv _ I);omega
  .rw[Kf]at I;omega) (fun hr=>by
  have A:=(F.run hr).1;rw[O A,Km];have h1:r.map φ2=r.map φ1:=List.map_congr_left fun x hx=>F.old _ (l1 x (Yv _ hx));rw[h1]
  simp[e2 A])
 have h3:((B.put 0 []).put 6 (r ++[B.n])).n=B.n+2:=by rw[put_n,R]
 have ht:=l1 t Kx
 have g4:=jql (p:=p) (a:=t) (b:=B.n+1) (a':=vs.headD 0) (b':=K.n+1) H.rl H.bk (by omega) (by omega) (fun hr=>by
  have E:=(H.run hr).1;have A:=(F.run E).1;rw[H.old _ (by omega),F.old _ ht,O A];rfl) (fun hr=>by
  have E:=(H.run hr).1;have A:=(F.run E).1;have hP:(K.add 0 []).n=K.n+1:=by rw[add_run A];unfold PS.n;simp
  rw[<-R,e3 E,hP])
 refine⟨φ3,((U.trans F).trans H).trans g4,?_,fun hr=>?_⟩
 .show B.n<((B.put 0 []).put 6 (r ++[B.n])).n
  omega
 .have hr3:=(g4.run hr).1
  have E:=(H.run hr3).1;have A:=(F.run E).1;rw[H.old _ (by omega),e2 A]
end
theorem jAW:∀(n:Nat) (x:X),SizeOf.sizeOf x<=n->WX x->Wk x:=by
 intro n
 induction n with
 |zero=>intro x h;cases x;simp at h
 |succ n ih=>
  intro x hs B
  cases B with
  |@nd k p xs kids h hk=>
   have A:∀y ∈ kids,Wk y:=fun y hy=>ih y (by have:=List.sizeOf_lt_of_mem hy;simp at hs;omega) (hk y hy)
   cases h with
   |leaf h=>
    intro env o φ S P C;rcases h with rfl|rfl|rfl|rfl|rfl|rfl
    .simp only[dW,pW];exact jsc C
    .simp only[dW,pW];exact jsc C
    .simp only[dW,pW];exact jsc C
    .simp only[dW,pW];exact jsc C
    .exact jAP C
    .simp only[dW,pW];exact jsc C
   |un h=>
    rcases h with h|h|h|h|h
    .exact jsP (A _ (by simp)) (.inl h)
    .exact jsP (A _ (by simp)) (.inr (.inl h))
    .exact jsP (A _ (by simp)) (.inr (.inr (.inl h)))
    .exact jsP (A _ (by simp)) (.inr (.inr (.inr h)))
    .subst h;exact jAT (A _ (by simp))
   |two h=>
    rcases h with h|h|h|h|h|h|h
    .exact jus (A _ (by simp)) (A _ (by simp)) (.inl h)
    .exact jus (A _ (by simp)) (A _ (by simp)) (.inr (.inl h))
    .exact jus (A _ (by simp)) (A _ (by simp)) (.inr (.inr h))
    .subst h;exact jAL (A _ (by simp)) (A _ (by simp))
    .subst h;exact jAO (A _ (by simp)) (A _ (by simp))
    .subst h;exact jAS (A _ (by simp)) (A _ (by simp))
    .subst h;exact jAV (A _ (by simp)) (A _ (by simp))
   |lt h=>exact jAQ (A _ (by simp)) (A _ (by simp)) h
   |rc h=>exact jAM (A _ (by simp)) (A _ (by simp)) h
   |three h=>
    rcases h with h|h
    .subst h;exact jAR (A _ (by simp)) (A _ (by simp)) (A _ (by simp))
    .subst h;exact jAN (A _ (by simp)) (A _ (by simp)) (A _ (by simp))
   |many h=>
    rcases h with h|h
    .subst h;exact jAU A
    .subst h;exact jAK A
def S0:DS:=⟨[],[],[]⟩
def P0:PS:=⟨[],[],[],none⟩
theorem rel_nil {i j:Nat}(h:Rel [] [] i j):i=j:=by
 induction h with
 |refl=>rfl
 |symm _ ih=>exact ih.symm
 |trans _ _ ih ih'=>exact ih.trans ih'
 |dem h=>cases h
 |kid _ hi=>simp at hi
theorem ok_nil:Ok [] []:=by
 refine⟨?_,fun i=>⟨_,fun j hj=>?_⟩⟩
 .rintro ⟨i,j,k,k',xs,ys,_,hi,_⟩
  simp at hi
 .obtain⟨i',k,xs,a,_,h2,_⟩:=hj
  simp at h2
theorem sim0:Sim id S0 P0:=⟨⟨fun i k xs h=>(by simp[S0]at h),fun i j hi=>(by simp[S0]at hi)⟩,fun i k xs a h=>(by simp[S0]at h),fun i k xs a h=>(by simp[P0]at h),fun d hd=>(by cases hd),fun p hp=>(by cases hp),rfl,ok_nil,rfl,fun q hq=>(by cases hq),rfl⟩
theorem text_walks {x:X}(E:WX x):∃φ,Rl φ (dP 1 x [] S0) (pP 1 x (-1) P0):=by
 obtain⟨B,F,H⟩:=jqB (k:=1) (xs:=[]) (ys:=[]) (.inl sim0) sim0.bS (fun a ha=>by cases ha) (fun _=>rfl);have C:B 0=0:=H rfl
 have I:Cx [] (-1) B (S0.put 1 []) (P0.add 1 []):=⟨F.rl,F.bk,by rw[put_n];omega,fun e he=>(by cases he),fun _=>.nil,fun _=>C⟩
 obtain⟨O,A,l2,K⟩:=jAW _ x (Yy _) E [] (-1) B _ _ I;have U:=A.le;have W:=put_n S0 1 [];have Y:S0.n=0:=rfl;have R:=jql (p:=x.p) (a':=(pW x (-1) (P0.add 1 [])).1) (b:=S0.n) (b':=P0.n) A.rl A.bk l2 (by omega) K (fun hr=>by rw[A.old S0.n (by omega)];exact C.symm);rw[dP,pP];exact⟨O,R.rl⟩
variable {ts:Tys}{D D':Dem}
theorem jIn (h:∀p ∈ D,p ∈ D') (A:Clash ts D):Clash ts D':=by
 obtain⟨i,j,k,C,xs,ys,E,B⟩:=A;exact⟨i,j,k,C,xs,ys,E.mono h,B⟩
theorem jGD (h:∀p ∈ D,p ∈ D') (A:Fin ts D'):Fin ts D:=by
 intro i
 induction A i with
 |intro i _ ih=>
  refine⟨_,fun j hj=>ih j ?_⟩;obtain⟨B,k,xs,a,F,I,E,C,H⟩:=hj;exact⟨B,k,xs,a,F.mono h,I,E,C,H.mono h⟩
theorem jyt (h:∀p ∈ D,p ∈ D') (A:Ok ts D'):Ok ts D:=⟨fun hc=>A.1 (jIn h hc),jGD h A.2⟩
mutual
inductive TxR (sp:Nat->List ByteArray->ByteArray) (ts:Tys) (D:Dem):Nat->ByteArray->Prop where
 |opn {i:Nat}(h:∀j,Rel ts D i j->kd ts j=0):TxR sp ts D i (sp 0 [])
 |mk {i j:Nat}{ys:List ByteArray}(h:Rel ts D i j) (hk:kd ts j≠0) (hs:jpj sp ts D (kids ts j) ys):TxR sp ts D i (sp (kd ts j) ys)
inductive jpj (sp:Nat->List ByteArray->ByteArray) (ts:Tys) (D:Dem):List Nat->List ByteArray->Prop where
 |nil:jpj sp ts D [] []
 |cons {i:Nat}{y:ByteArray}{l:List Nat}{ys:List ByteArray}(h:TxR sp ts D i y) (h':jpj sp ts D l ys):jpj sp ts D (i ::l) (y ::ys)
end
theorem jy1 (E:¬Clash ts D) {i j:Nat}(h:Rel ts D i j) (hi:kd ts i≠0) (A:kd ts j≠0):kd ts i=kd ts j/\(kids ts i).length=(kids ts j).length/\∀(m a b:Nat),(kids ts i)[m]? =some a->(kids ts j)[m]? =some b->Rel ts D a b:=by
 have C:=jo7 hi;have B:=jo7 A;have F:kd ts i=kd ts j:=Yt fun hne=>E ⟨i,j,_,_,_,_,h,C,B,hi,A,.inl hne⟩;have H:(kids ts i).length=(kids ts j).length:=Yt fun hne=>E ⟨i,j,_,_,_,_,h,C,B,hi,A,.inr hne⟩;rw[<-F]at B;exact⟨F,H,fun m a b ha hb=>.kid h C B hi H ha hb⟩
mutual
theorem TxR.one {sp:Nat->List ByteArray->ByteArray}{ts:Tys}{D:Dem}(A:¬Clash ts D):∀{i:Nat}{y:ByteArray},TxR sp ts D i y->∀{i':Nat}{y':ByteArray},Rel ts D i i'->TxR sp ts D i' y'->y=y'
 |i,_,.opn h,i',_,hr,h'=>by
  cases h' with
  |opn _=>rfl
  |mk h1 hk _=>exact absurd (h _ (hr.trans h1)) hk
 |i,_,.mk (j:=j) (ys:=ys) h hk hs,i',_,hr,h'=>by
  cases h' with
  |opn h1=>exact absurd (h1 _ (hr.symm.trans h)) hk
  |@mk _ j' ys' h1 hk' hs'=>
   obtain⟨B,C,E⟩:=jy1 A ((h.symm.trans hr).trans h1) hk hk';rw[B,jpj.one A hs C E hs']
theorem jpj.one {sp:Nat->List ByteArray->ByteArray}{ts:Tys}{D:Dem}(A:¬Clash ts D):∀{l:List Nat}{ys:List ByteArray},jpj sp ts D l ys->∀{l':List Nat}{ys':List ByteArray},l.length=l'.length->(∀(m a b:Nat),l[m]? =some a->l'[m]? =some b->Rel ts D a b)->jpj sp ts D l' ys'->ys=ys'
 |_,_,.nil,l',_,hl,hr,h'=>by
  cases h' with
  |nil=>rfl
  |cons _ _=>cases hl
 |_,_,.cons h hs,l',_,hl,hr,h'=>by
  cases h' with
  |nil=>cases hl
  |cons h1 hs1=>
   rw[TxR.one A h (hr 0 _ _ rfl rfl) h1,jpj.one A hs (by simpa using hl) (fun m a b ha hb=>hr (m+1) a b (by simpa using ha) (by simpa using hb)) hs1]
end
section
variable {ts ts':Tys}{D:Dem}{φ:Nat->Nat}
theorem Em.kd (h:Em ts ts' φ) {i:Nat}(hi:i<ts.length):kd ts' (φ i)=kd ts i/\kids ts' (φ i)=(kids ts i).map φ:=by
 obtain⟨k,xs,e⟩:=jrw hi;have A:=h.at' i k xs e;unfold Inf.kd Inf.kids;rw[e,A];exact⟨rfl,rfl⟩
theorem kd_lt {i:Nat}(h:Inf.kd ts i≠0):i<ts.length:=jp5 (jo7 h)
mutual
theorem TxR.map {sp:Nat->List ByteArray->ByteArray}(h:Em ts ts' φ) (E:Dl ts.length D) (B:Back ts):∀{i:Nat}{y:ByteArray},i<ts.length->TxR sp ts D i y->TxR sp ts' (mapD φ D) (φ i) y
 |i,_,hi,.opn ho=>by
  refine .opn fun v hv=>?_
  rcases h.back E B hv with rfl|⟨a,b,C,H,A,rfl,F⟩
  .rw[(h.kd hi).1];exact ho i (.refl _)
  .rw[(h.kd H).1]
   have:=h.inj a i C hi A;subst this;exact ho b F
 |i,_,hi,.mk (j:=j) (ys:=ys) F hk hs=>by
  have I:=kd_lt hk;obtain⟨A,K⟩:=h.kd I;rw[<-A];refine .mk (h.rel F) (by rw[A];exact hk) ?_;rw[K];exact jpj.map h E B (fun a C=>by have:=B j _ _ a (jo7 hk) C;omega) hs
theorem jpj.map {sp:Nat->List ByteArray->ByteArray}(h:Em ts ts' φ) (A:Dl ts.length D) (B:Back ts):∀{l:List Nat}{ys:List ByteArray},(∀a ∈ l,a<ts.length)->jpj sp ts D l ys->jpj sp ts' (mapD φ D) (l.map φ) ys
 |_,_,_,.nil=>.nil
 |_,_,hl,.cons h1 hs=>.cons (TxR.map h A B (hl _ Kx) h1) (jpj.map h A B (fun a ha=>hl a (Yv _ ha)) hs)
end
end
mutual
inductive SzR (ts:Tys) (D:Dem):Nat->Nat->Prop where
 |opn {i:Nat}(h:∀j,Rel ts D i j->kd ts j=0):SzR ts D i 1
 |mk {i j n:Nat}(h:Rel ts D i j) (hk:kd ts j≠0) (hs:jpk ts D (kids ts j) n):SzR ts D i (1+n)
inductive jpk (ts:Tys) (D:Dem):List Nat->Nat->Prop where
 |nil:jpk ts D [] 0
 |cons {i n m:Nat}{l:List Nat}(h:SzR ts D i n) (h':jpk ts D l m):jpk ts D (i ::l) (n+m)
end
mutual
theorem SzR.one {ts:Tys}{D:Dem}(A:¬Clash ts D):∀{i y:Nat},SzR ts D i y->∀{i' y':Nat},Rel ts D i i'->SzR ts D i' y'->y=y'
 |i,_,.opn h,i',_,hr,h'=>by
  cases h' with
  |opn _=>rfl
  |mk h1 hk _=>exact absurd (h _ (hr.trans h1)) hk
 |i,_,.mk (j:=j) (n:=n) h hk hs,i',_,hr,h'=>by
  cases h' with
  |opn h1=>exact absurd (h1 _ (hr.symm.trans h)) hk
  |@mk _ j' n' h1 hk' hs'=>
   obtain⟨E,B,C⟩:=jy1 A ((h.symm.trans hr).trans h1) hk hk';rw[jpk.one A hs B C hs']
theorem jpk.one {ts:Tys}{D:Dem}(A:¬Clash ts D):∀{l:List Nat}{n:Nat},jpk ts D l n->∀{l':List Nat}{n':Nat},l.length=l'.length->(∀(m a b:Nat),l[m]? =some a->l'[m]? =some b->Rel ts D a b)->jpk ts D l' n'->n=n'
 |_,_,.nil,l',_,hl,hr,h'=>by
  cases h' with
  |nil=>rfl
  |cons _ _=>cases hl
 |_,_,.cons h hs,l',_,hl,hr,h'=>by
  cases h' with
  |nil=>cases hl
  |cons h1 hs1=>
   rw[SzR.one A h (hr 0 _ _ rfl rfl) h1,jpk.one A hs (by simpa using hl) (fun m a b ha hb=>hr (m+1) a b (by simpa using ha) (by simpa using hb)) hs1]
end
section
variable {ts ts':Tys}{D:Dem}{φ:Nat->Nat}
mutual
theorem SzR.map (h:Em ts ts' φ) (E:Dl ts.length D) (A:Back ts):∀{i y:Nat},i<ts.length->SzR ts D i y->SzR ts' (mapD φ D) (φ i) y
 |i,_,hi,.opn ho=>by
  refine .opn fun v hv=>?_
  rcases h.back E A hv with rfl|⟨a,b,C,H,B,rfl,F⟩
  .rw[(h.kd hi).1];exact ho i (.refl _)
  .rw[(h.kd H).1]
   have:=h.inj a i C hi B;subst this;exact ho b F
 |i,_,hi,.mk (j:=j) F hk hs=>by
  have I:=kd_lt hk;obtain⟨B,K⟩:=h.kd I;refine .mk (h.rel F) (by rw[B];exact hk) ?_;rw[K];exact jpk.map h E A (fun a C=>by have:=A j _ _ a (jo7 hk) C;omega) hs
theorem jpk.map (h:Em ts ts' φ) (A:Dl ts.length D) (B:Back ts):∀{l:List Nat}{n:Nat},(∀a ∈ l,a<ts.length)->jpk ts D l n->jpk ts' (mapD φ D) (l.map φ) n
 |_,_,_,.nil=>.nil
 |_,_,hl,.cons h1 hs=>.cons (SzR.map h A B (hl _ Kx) h1) (jpk.map h A B (fun a ha=>hl a (Yv _ ha)) hs)
end
end
mutual
def sz:X->Nat
 | .nd _ _ _ kids=>1+szs kids
def szs:List X->Nat
 |[]=>0
 |x ::l=>sz x+szs l
end
inductive WZ:X->Prop where
 |nd {k:Nat}{p:Int}{xs:List ByteArray}{kids:List X}(h:Sh k xs kids) (hxx:∀x ∈ xs,x.size<=1000) (h6:xs.length<=6) (k6:kids.length<=6) (h5:k=5->xs.length=1) (h9:k=9->2<=xs.length) (h10:k=10->2<=xs.length) (h19:k=19->2<=kids.length) (hk:∀y ∈ kids,WZ y):WZ (.nd k p xs kids)
theorem WZ.wx:∀(n:Nat) {x:X},SizeOf.sizeOf x<=n->WZ x->WX x:=by
 intro n
 induction n with
 |zero=>intro x h;cases x;simp at h
 |succ n ih=>
  intro x hs A
  cases A with
  |nd h hxx h6 k6 h5 h9 h10 h19 hk=>exact .nd h (fun y hy=>ih (by have:=List.sizeOf_lt_of_mem hy;simp at hs;omega) (hk y hy))
def Fz (x:X):Prop:=∀(o:Int) (P:PS) (u:Bool × Int),P.st=some u->(pW x o P).2=P
variable {P:PS}
theorem jpx {x:X}(h:Fz x) {u:Bool × Int}(hs:P.st=some u) (k:Nat) (o:Int):pP k x o P=P:=by
 rw[pP];simp only[add_stop hs,h o P u hs,dem_stop hs]
theorem jvo {x:X}(h:Fz x) {u:Bool × Int}(hs:P.st=some u) (o:Int):(pE x o P).2=P:=by
 rw[pE];simp only[add_stop hs,h o P u hs,dem_stop hs]
theorem jvn {P:PS}{u:Bool × Int}(hs:P.st=some u) (o:Int):∀l:List X,(∀x ∈ l,Fz x)->(pWs l o P).2=P
 |[],_=>by rw[pWs]
 |x ::l,h=>by
  rw[pWs];simp only[h x (by simp) o P u hs];exact jvn hs o l (fun y hy=>h y (Yv _ hy))
theorem jr4 {P:PS}{u:Bool × Int}(hs:P.st=some u):∀(xs:List ByteArray) (p o:Int),P.bind xs p o=P
 |[],_,_=>rfl
 |x ::r,p,o=>by rw[PS.bind,jyv hs];exact jr4 hs r p _
theorem fz_all:∀(n:Nat) (x:X),SizeOf.sizeOf x<=n->WX x->Fz x:=by
 intro n
 induction n with
 |zero=>intro x h;cases x;simp at h
 |succ n ih=>
  intro x hs H
  cases H with
  |@nd k p xs kids h hk=>
   have E:∀y ∈ kids,Fz y:=fun y hy=>ih y (by have:=List.sizeOf_lt_of_mem hy;simp at hs;omega) (hk y hy);intro o P u A
   cases h with
   |leaf h=>
    rcases h with rfl|rfl|rfl|rfl|rfl|rfl
    .simp only[pW,add_stop A]
    .simp only[pW,add_stop A]
    .simp only[pW,add_stop A]
    .simp only[pW,add_stop A]
    .simp only[pW]
     split
     .rfl
     .exact jsy A _
    .simp only[pW,add_stop A]
   |@un k xs a h=>
    have B:=E a (by simp);rcases h with rfl|rfl|rfl|rfl|rfl
    .simp only[pW,jpx B A,add_stop A]
    .simp only[pW,jpx B A,add_stop A]
    .simp only[pW,jpx B A,add_stop A]
    .simp only[pW,jvo B A,add_stop A]
    .simp only[pW,jr4 A,B _ _ _ A,add_stop A]
   |@two k xs a b h=>
    have B:=E a (by simp);have C:=E b (by simp);rcases h with rfl|rfl|rfl|rfl|rfl|rfl|rfl
    .simp only[pW,jpx B A,jpx C A,add_stop A]
    .simp only[pW,jpx B A,jpx C A,add_stop A]
    .simp only[pW,jpx B A,jpx C A,add_stop A]
    .simp only[pW,jpx B A,C _ _ _ A]
    .simp only[pW,jr4 A,add_stop A,B _ _ _ A,dem_stop A,C _ _ _ A]
    .simp only[pW,jvo B A,jpx C A]
    .simp only[pW,jpx B A,C _ _ _ A,add_stop A]
   |@lt xs a b h=>
    have B:=E a (by simp);have C:=E b (by simp);simp only[pW,jr4 A,B _ _ _ A,dem_stop A,C _ _ _ A]
   |@rc xs a b h=>
    have B:=E a (by simp);have C:=E b (by simp);simp only[pW,jr4 A,add_stop A,B _ _ _ A,dem_stop A,C _ _ _ A]
   |@three k xs a b c h=>
    have B:=E a (by simp);have C:=E b (by simp);have F:=E c (by simp);rcases h with rfl|rfl
    .simp only[pW,jpx B A,C _ _ _ A,F _ _ _ A,dem_stop A]
    .simp only[pW,jvo B A,jpx C A,F _ _ _ A,dem_stop A,add_stop A]
   |@many k xs a l h=>
    rcases h with rfl|rfl
    .simp only[pW,jvn A o (a ::l) E,add_stop A,dem_stop A]
    .simp only[pW,jvn A o (a ::l) E,add_stop A]
theorem jFK (ts z:Tys):Em ts (ts ++z) id:=⟨fun i k xs h=>by
 show(ts ++z)[i]? =_;rw[Kb (jp5 h),h]
 simp,fun i j _ _ h=>h⟩
theorem jyS (D:Dem):mapD id D=D:=by unfold mapD;simp
theorem Rp.more {ts:Tys}{D:Dem}{f g:Nat->Nat}{t:Ty}(h:Rp ts D f) (F:Dl ts.length D) (E:Back ts) (C:∀i,i<ts.length->f i<ts.length) (A:∀i,i<ts.length->g i=f i) (B:∀i,ts.length<=i->g i=i):Rp (ts ++[t]) D g:=by
 have e:=jFK ts [t];have lo:∀i,i<ts.length->g i<ts.length:=fun i hi=>by rw[A i hi];exact C i hi
 refine⟨fun i j=>⟨fun he=>?_,fun hr=>?_⟩,fun i=>?_,fun i k xs hi hk=>?_⟩
 .rcases Kg i ts.length with hi|hi
  .rcases Kg j ts.length with hj|hj
   .rw[A i hi,A j hj]at he
    have:=e.rel ((h.eq i j).1 he);rw[jyS]at this;exact this
   .have:=lo i hi
    rw[he,B j hj]at this;omega
  .rcases Kg j ts.length with hj|hj
   .have:=lo j hj
    rw[<-he,B i hi]at this;omega
   .rw[B i hi,B j hj]at he
    rw[he];exact .refl _
 .rcases e.back F E (u:=i) (v:=j) (by rw[jyS];exact hr)with rfl|⟨a,b,ha,hb,rfl,rfl,hr'⟩
  .rfl
  .show g a=g b
   rw[A a ha,A b hb];exact(h.eq a b).2 hr'
 .rcases Kg i ts.length with hi|hi
  .rw[A i hi,A _ (C i hi)];exact h.idm i
  .rw[B i hi,B i hi]
 .rcases jwK hi with hi|⟨rfl,rfl⟩
  .have hl:=jp5 hi
   obtain⟨I,ys,H,K⟩:=h.hd i k xs hi hk;rw[A i hl];exact⟨I,ys,by rw[Kb (C i hl)];exact H,K⟩
  .rw[B _ jN]
   exact⟨k,xs,by simp,hk⟩
theorem bare_app {ts:Tys}{k:Nat}{xs:List Nat}(h:Bare ts) (B:k=0->xs=[]):Bare (ts ++[⟨k,xs⟩]):=by
 intro i hi;unfold kd kids at *;rcases Kg i ts.length with A|A
 .rw[Kb A]at hi ⊢;exact h i hi
 .rw[Ud A]at hi ⊢
  cases e :i-ts.length with
  |zero=>rw[e]at hi;exact B hi
  |succ n=>simp
def Gr (P P':PS):Prop:=P'.st=none->P.st=none/\P.n<=P'.n/\P.bs.length<=P'.bs.length
theorem Gr.refl (P:PS):Gr P P:=fun h=>⟨h,jN,jN⟩
theorem Gr.trans {B A:PS}(h:Gr P B) (C:Gr B A):Gr P A:=fun hr=>by
 obtain⟨a,b,c⟩:=C hr;obtain⟨a',b',E⟩:=h a;exact⟨a',by omega,by omega⟩
theorem Gr.add (P:PS) (k:Nat) (xs:List Nat):Gr P (P.add k xs):=by
 intro A
 cases hs :P.st with
 |some u=>rw[add_stop hs,hs]at A;cases A
 |none=>rw[add_run hs];exact⟨rfl,by unfold PS.n;simp,jN⟩
theorem Gr.dem (P:PS) (a b:Nat) (p:Int):Gr P (P.dem a b p):=by
 intro A
 cases hs :P.st with
 |some u=>rw[dem_stop hs,hs]at A;cases A
 |none=>
  unfold PS.dem at A ⊢;rw[hs]at A ⊢;simp only at A ⊢
  split at A
  .rename_i c;rw[if_pos c];exact⟨by first|trivial|rfl,jN,jN⟩
  .cases A
theorem Gr.bind (P:PS) (xs:List ByteArray) (p o:Int):Gr P (P.bind xs p o):=by
 intro A
 cases hs :P.st with
 |some u=>rw[jr4 hs,hs]at A;cases A
 |none=>rw[Tg.bind_run xs P p o hs];exact⟨rfl,by unfold PS.n;simp,by simp⟩
end Inf
namespace Tg
open Go.RowKit
variable {w:World}{κ:Kp}{wb:Nat}{tv v:Value}{a0:Int}{ns:List NM}{bs:List Inf.Bd}
theorem jIQ {bv:Value}(h:WM w κ wb tv bv 0 a0 v ns) (C:BM w κ bv bs) (xs:List ByteArray) (p o:Int) (PO:Obj) :
 BI w κ wb tv a0 ns bs xs p o w.heap.size PO 0 (.slice (some ⟨w.heap.size+1,0,none⟩) 0 0) ((w.alloc PO).alloc (.cells #[] 3 (0,0))) κ bv v ns:=by
 have A:Below w.heap.size w ((w.alloc PO).alloc (.cells #[] 3 (0,0))):=(jB.alloc jN _).alloc (by rw[Ya];omega) _;refine⟨h.on A,?_,Opn.refl _,?_,fun b hb=>?_,.of A,?_,h.gm.top _ jN⟩
 .have e:bs ++bdL xs p ns.length bs.length o 0=bs:=by unfold bdL;simp
  rw[e];exact C.on A
 .refine jev (xs:=[]) (B:=w.heap.size+1) ?_ jN (by simp[maxLen])
  have:=jg (w.alloc PO) (.cells #[] 3 (0,0));rw[Ya]at this;exact this
 .cases hb;exact h.gm.top _ (Nat.le_succ _)
 .rw[Kq _ _ _ (by rw[Ya];omega)];exact jg w PO
structure BI' (w:World) (κ:Kp) (wb:Nat) (tv:Value) (a0:Int) (ns:List NM) (bs:List Inf.Bd) (xs:List ByteArray) (p o:Int) (pb:Nat) (PO:Obj) (i:Nat) (kvv:Value) (wr:World) (κi:Kp) (bvi vi:Value) (nsi:List NM):Prop where
 wm:WM wr κi wb tv bvi 0 a0 vi nsi
 bm:BM wr κi bvi (bs ++bdL xs p ns.length bs.length o i)
 op:Opn ns nsi (i+1)
 kr:wr.ownsRow (w.heap.size+1) 3 1 kvv (i+1) (iV (kdL ns.length (i+1)))
 kt:∀b,kvv.ownBlock=some b->κi b=none
 fr:Fr (fun t=>t=(0,0)\/t=(1,0)\/t=(4,0)) κ κi w wr
 po:wr.heap[pb]? =some PO
 pt:κi pb=none
variable {w1:World}{κ1:Kp}{bvi:Value}{p o:Int}{xs:List ByteArray}{PO:Obj}{i:Nat}
theorem jAm {wr:World}{C:Kp}{F A:Value}{B:List NM}{S:Tag->Prop}
 (h:BI w κ wb tv a0 ns bs xs p o w.heap.size PO i A wr C bvi F B) (E:Fr S C κ1 wr w1):w1.ownsRow (w.heap.size+1) 3 1 A i (iV (kdL ns.length i))/\∀b,A.ownBlock=some b->κ1 b=none:=
 ⟨j3 h.kr (fun b hb=>E.rest b (h.kr.lt b hb).2 (fun t ht=>by rw[h.kt b hb]at ht;cases ht)),fun b hb=>(E.old b (h.kr.lt b hb).2).trans (h.kt b hb)⟩
theorem jIR {wr w2:World}{W:Kp}{vi v1 F E v2:Value}{A:List NM}{O:Obj}
 (h:BI w κ wb tv a0 ns bs xs p o w.heap.size PO i E wr W bvi vi A) (Z:WM w1 κ1 wb tv bvi 0 a0 v1 (A ++[⟨0,[],A.length,F⟩])) (B:Fr (fun t=>t=(0,0)\/t=(1,0)) W κ1 wr w1)
 (C:w2.ownsRow (w.heap.size+1) 3 1 v2 (i+1) (iV (kdL ns.length i) ++[.int .i64 (A.length:Nat)])) (H:(w1.alloc O).grownBy w2 E.ownBlock) (R:v2.ownBlock=E.ownBlock\/v2.ownBlock=some (w1.alloc O).heap.size) :
 BI' w κ wb tv a0 ns bs xs p o w.heap.size PO i v2 w2 κ1 bvi v1 (A ++[⟨0,[],A.length,F⟩]):=by
 obtain⟨U,K⟩:=jAm h B;have I:=Oth.grown (κ:=κ1) H K;have h1:=B.low.size;have h2:=h.fr.low.size;have h0:=jb h.po;have Y:=B.blk h.po h.pt;refine⟨Z.other I,(h.bm.keep B (by rintro (e|e) <;> cases e)).other I,h.op.succ F,?_,fun b hb=>?_,?_,?_,B.none h.po h.pt⟩
 .rw[jFp]
  unfold iV at C ⊢;rw[Km];rw[h.op.len]at C;exact C
 .rcases R with e|e
  .exact K b (by rw[<-e];exact hb)
  .rw[e]at hb
   cases hb;exact Z.gm.top _ (by rw[Ya];omega)
 .have hB:Below w.heap.size w1 w2:=(jB.alloc (by omega) _).grown H (by rw[Ya];omega) (fun k hk=>by have:=jh7 U k hk;omega)
  exact(h.fr.trans (B.mono (fun t e=>by rcases e with e|e;exact .inl e;exact .inr (.inl e)))).far hB
 .rw[H.block _ (by rw[Ya];omega) (fun e=>by have:=jh7 U _ e.symm;omega),Kq _ _ _ (by omega)]
  exact Y
theorem jIS {w2 w3:World}{g cap:Nat}{K v2:Value}{C:List NM}
 (h:BI' w κ wb tv a0 ns bs xs p o w.heap.size PO i v2 w2 κ1 bvi K C) (U: -1<=o/\o<(bs.length:Nat)) (Y:bs.length+i<100000)
 (H:w3.ownsRow 0 72 4 (.slice (some ⟨g,0,none⟩) (bs.length+i+1) cap) (bs.length+i+1) ((bs ++bdL xs p ns.length bs.length o i).flatMap bdC ++bdC (bdI xs p ns.length bs.length o i)))
 (F:(w2.alloc (.cells (bdC (bdI xs p ns.length bs.length o i)).toArray 72 (0,0))).drew.grownBy w3 bvi.ownBlock) (E:bvi.ownBlock=some g\/g=w2.heap.size+1) :
 ∃κ2,BI w κ wb tv a0 ns bs xs p o w.heap.size PO (i+1) v2 (w3.setCell ⟨wb,2,none⟩ (.slice (some ⟨g,0,none⟩) (bs.length+i+1) cap)) κ2 (.slice (some ⟨g,0,none⟩) (bs.length+i+1) cap) K C:=by
 have I:(bs ++bdL xs p ns.length bs.length o i).length=bs.length+i:=by rw[Yg,jt6]
 have O: -1<=(bdI xs p ns.length bs.length o i).o/\(bdI xs p ns.length bs.length o i).o<((bs ++bdL xs p ns.length bs.length o i).length:Nat):=by
  rw[I];show -1<=scI _ _ _/\scI _ _ _<_;unfold scI
  split
  .omega
  .omega
 have R:=jIO (g:=g) (cap:=cap) (b:=bdI xs p ns.length bs.length o i) (w3:=w3) h.wm h.bm (by omega) O (by rw[I];exact H) F E;rw[I]at R;obtain⟨κ2,W,A,B⟩:=R;refine⟨κ2,W,?_,h.op,j3 h.kr (fun b A=>B.rest b (h.kr.lt b A).2 (fun t ht=>by rw[h.kt b A]at ht;cases ht)),fun b A=>(B.old b (h.kr.lt b A).2).trans (h.kt b A),h.fr.trans (B.mono (fun t e=>by rcases e with e|e;exact .inl e;exact .inr (.inr e))),B.blk h.po h.pt,B.none h.po h.pt⟩;rw[jIW,<-Yu];exact A
def BP (κ:Kp) (wb:Nat) (tv:Value) (a0:Int) (ns:List NM) (bs:List Inf.Bd) (xs:List ByteArray) (p o:Int) (w:World) (e:Ending) (w':World):Prop:=
 ∃PO kvv κ' bv' v' ns',e= .returned (.tuple #[.int .i64 (scI bs.length o xs.length),kvv])/\BI w κ wb tv a0 ns bs xs p o w.heap.size PO xs.length kvv w' κ' bv' v' ns'
theorem jAE (h:i<xs.length):(xs.map Value.string)[i]? =some (.string ((xs[i]?).getD ⟨#[]⟩)):=by
 rw[Yr,Yb h];rfl
theorem jtg {w3:World}{X O:Obj}(B:w1.heap[wb]? =some X) (C:∀b,v.ownBlock=some b->b≠wb) (A:(w1.alloc O).drew.grownBy w3 v.ownBlock):w3.heap[wb]? =some X:=by
 have E:=jb B;rw[A.block wb (by show wb<(w1.alloc O).heap.size;rw[Ya];omega) (fun e=>C wb e.symm rfl)];show(w1.alloc O).heap[wb]? =_;rw[Kq _ _ _ E];exact B
set_option maxRecDepth 100000 in
theorem jIP {bv:Value}(h:WM w κ wb tv bv 0 a0 v ns) (hB:BM w κ bv bs) {k wd nm:Int}{nv:Value}{ka:Option Addr}{kn kc:Nat}
 (Y:w.ownsRow 0 9 1 nv xs.length (xs.map Value.string)) (h3:∀b,nv.ownBlock=some b->κ b=none) (ho: -1<=o/\o<(bs.length:Nat)) (hn:bs.length+xs.length<100000) (h0:ns.length+xs.length<100000) :
 Calls Tryz.prog 114 #[.pointer (some ⟨wb,0,none⟩),.agg #[.int .i64 k,.int .i64 p,.int .i64 wd,.int .i64 nm,nv,.slice ka kn kc],.int .i64 o] w (BP κ wb tv a0 ns bs xs p o w):=by
 obtain⟨i0,v7,q8,x4,r3⟩:=info_parts Tryz.kiI;obtain⟨j0,r5,v6,r1,x2⟩:=info_parts Tryz.kiB;obtain⟨na,nc,rfl⟩:=j5 Y
 obtain⟨PO,k5⟩:∃PO,Obj.cells #[.int .i64 k,.int .i64 p,.int .i64 wd,.int .i64 nm,.slice na xs.length nc,.slice ka kn kc] 138 (0,0)=PO:=⟨_,rfl⟩
 have HS:=jH (jIQ h hB xs p o PO);have h9:=jH k5;have k8:=jH Y;have v9:=jH h3
 obtain⟨n,h6⟩:∃n,xs.length=n:=⟨_,rfl⟩
 have R:=jH h6;have hl:=h.gm.lt;rw[h6]at hn h0 ⊢;clear h hB Y h3 h6 k5
 go_enter Tryz.func114,Tryz.ntmps114
 go_wp2_with fail
 go_loopg [2,8,16] n (fun gh s2 s8 s16 (wr:World)=>∃(i:Nat) (κi:Kp) (bvi vi:Value) (F:List NM),i<=n/\gh=n-i/\s2= .int .i64 (scI bs.length o i)/\s16= .int .i64 (i:Nat)/\BI w κ wb tv a0 ns bs xs p o w.heap.size PO i s8 wr κi bvi vi F)
 case atStart=>
  refine⟨0,κ,bv,v,ns,by omega,rfl,rfl,rfl,?_⟩;have:=HS.o;rw[<-h9.o,R.o]at this;rw[<-h9.o,R.o];exact this
 case round=>
  obtain⟨i,κi,bvi,vi,F,hi,y5,rfl,rfl,h5⟩:=hrel;obtain⟨sa,sc,r9⟩:=j5 h5.kr;subst r9;have B:=jH h5;clear h5
  by_cases v4:i<n
  .have u1:(i:Int)<(n:Int):=by omega
   obtain⟨Z,x6,e,_,r6,q9,_⟩:=jaf k8.o (by rw[R.o];omega);cases e
   obtain⟨bx,h8⟩:∃bx,(xs[i]?).getD ⟨#[]⟩=bx:=⟨_,rfl⟩
   have c1:wr.cell? ⟨Z,i,none⟩=some (.string bx):=by
    have h1:=B.o.fr.rest Z r6 (fun t ht=>by rw[v9.o Z rfl]at ht;cases ht);rw[Ke (w:=w) (a:=⟨Z,i,none⟩) h1];have h2:=k8.o.cells (g:=Z) rfl i _ (jAE (by rw[R.o];exact v4));rw[addr_add,h8]at h2;exact h2
   have y3:Z<wr.heap.size:=World.block_lt_of_cell? wr _ c1;have x9:=B.o.wm.gm.lt;have q6:=B.o.op.len
   obtain⟨t,ht⟩:∃t,F.length=t:=⟨_,rfl⟩
   have CA:=jH (add_any B.o.wm (by omega) 0 (KS.nil _) (by simp));have HT:=jH ht;have x0:=jH h8;have y6:=B.o.fr.low.size;rw[R.o]at q9;have y1:i<100000:=by omega
   clear ht h8 q6 h0
   go_upto_region 7 with(first
    |(go_at_call 68;refine CA.o.mono ?_;rintro _ w1 ⟨rfl,κ1,v1,r7,k7,h7⟩;rw[HT.o];have v8:=jH k7;have k9:=jH h7;have y2:=h7.low.size;clear k7 h7)
    |(at_builtin;refine JO _ rfl (.tmp 24) (.tmp 26) 56 rfl (w.heap.size+1) 3 i0 _ 1 8 Tryz.kuI v7 q8 x4 r3 rfl (by decide) (.slice sa i sc) i (iV (kdL ns.length i)) rfl ((jAm B.o k9.o).1.alloc _) ⟨w1.heap.size,0,none⟩ 1 1 [.int .i64 (t:Nat)] rfl rfl (Ja _ _ _ _ rfl) ?_ ?_ ?_ ?_ ?_;(intro u hu;simp at hu;subst hu;rfl);(unfold maxLen;omega);omega;(rw[Ya];omega);intro v2 w2 I O k1))
   have A:=jIR (v2:=v2) B.o v8.o k9.o (by rw[HT.o];exact I) O k1;obtain⟨g2,c2,r4,v0⟩:=jaf I (by omega);clear v0;subst r4;have q5:=jH A;have W:=A.bm.row.own
   obtain⟨N,hN⟩:∃N,bs.length+i=N:=⟨_,rfl⟩
   have k4:(bs ++bdL xs p ns.length bs.length o i).length=N:=by rw[Yg,jt6,hN]
   rw[k4]at W;obtain⟨ba,bc,r2⟩:=j5 W;have x1:=jH A.wm.blk;have x3:=jH (show ∀b,bvi.ownBlock=some b->b≠wb from fun b hb e=>by have:=A.bm.row.tag b hb;rw[e,A.wm.gm.tg]at this;cases this);subst r2;have d2:w2.cell? ⟨wb,2,none⟩=some (.slice ba N bc):=ja A.wm.blk 2 rfl;have dp:w2.cell? ⟨w.heap.size,1,none⟩=some (.int .i64 p):=by have:=A.po;rw[<-h9.o]at this;exact ja this 1 rfl
   have y7:=A.wm.gm.lt;have x7:=jb A.po;have v5:=jH W;have HN:=jH hN
   obtain⟨si,h4⟩:∃si,scI bs.length o i=si:=⟨_,rfl⟩
   have r8:=jH h4;rw[h4];have y4:N<100000:=by omega
   clear A W I O k1 k4 hN h4 c1
   go_region_law ((refine step_append_lies _ (by rfl) (.tmp 32) (.tmp 39) 44 (by rfl) 0 72 j0 _ 4 40 Tryz.kuB r5 v6 r1 x2 rfl (by decide) (.slice ba N bc) N ((bs ++bdL xs p ns.length bs.length o i).flatMap bdC) (by rfl) (v5.o.alloc _) ⟨w2.heap.size,0,none⟩ 1 1 [.string bx,.int .i64 p,.int .i64 (t:Nat),.int .i64 si] (by rfl) (by rfl) (Ja _ _ _ _ (by simp)) (by intro u hu;simp at hu;rcases hu with rfl|rfl|rfl|rfl <;> rfl) (by decide) (by unfold maxLen;omega) (by omega) (by simp) _ rfl ?_;intro g c w3 H C k2 x5;have E:=jtg x1.o x3.o C;have d3:=ja E 2 rfl;have e3:=je E 2;have y0:=jb E))
   all_goals
    rename_i K hK
    refine hK _ _ ?_;clear hK;clear K;have U:=jf E 2 (.slice (some ⟨g,0,none⟩) (N+1) c);have q4:(w3.setCell ⟨wb,2,none⟩ (.slice (some ⟨g,0,none⟩) (N+1) c)).cell? ⟨wb,2,none⟩=some (.slice (some ⟨g,0,none⟩) (N+1) c):=ja U 2 rfl;have x8:=jb U
    have v3:=jH (show ∃κ2,BI w κ wb tv a0 ns bs xs p o w.heap.size PO (i+1) (.slice (some ⟨g2,0,none⟩) (i+1) c2) (w3.setCell ⟨wb,2,none⟩ (.slice (some ⟨g,0,none⟩) (N+1) c)) κ2 (.slice (some ⟨g,0,none⟩) (N+1) c) v1 (F ++[⟨0,[],F.length,r7⟩])from by
     have et:t=ns.length+i:=by rw[<-HT.o];exact B.o.op.len
     have eb:[Value.string bx,.int .i64 p,.int .i64 (t:Nat),.int .i64 si]=bdC (bdI xs p ns.length bs.length o i):=by rw[<-x0.o,<-r8.o,et];rfl
     have hN:=HN.o;subst hN;rw[eb]at H;refine jIS q5.o ho (by omega) H ?_ ?_
     .rw[<-eb];exact C
     .exact k2.imp id (fun e=>by rw[e];show(w2.alloc _).heap.size=_;rw[Ya]))
    clear U E H C k2 d3 e3 d2 dp
    go_wp2_with fail
    go_roundg (n-(i+1))
    case measure=>omega
    case rel=>
     obtain⟨κ2,q7⟩:=v3.o;refine⟨i+1,κ2,_,v1,_,by omega,rfl,?_,by go_num,q7⟩;rw[show scI bs.length o (i+1)=((N:Nat):Int)from by unfold scI;rw[if_neg (by omega)];have:=HN.o;omega]
  .have:i=n:=by omega
   subst this
   go_wp2_with fail
   go_returns;refine⟨PO,.slice sa i sc,κi,bvi,vi,F,?_,?_⟩
   .rw[R.o];rfl
   .rw[R.o];exact B.o
end Tg
namespace Inf
def jnF (s:ByteArray):List ByteArray->ByteArray
 |[]=>⟨#[]⟩
 |x ::r=>r.foldl (fun a y=>a ++s ++y) x
theorem jnF_snoc (s y:ByteArray) {l:List ByteArray}(h:l≠[]):jnF s (l ++[y])=jnF s l ++s ++y:=by
 cases l with
 |nil=>exact absurd rfl h
 |cons x r=>
  show(r ++[y]).foldl _ x=_;rw[List.foldl_append];rfl
def sp:Nat->List ByteArray->ByteArray
 |2,_=>⟨#[98,111,111,108]⟩
 |3,_=>⟨#[117,110,105,116]⟩
 |4,ys=>jnF ⟨#[]⟩ ys ++⟨#[32,97,114,114,97,121]⟩
 |5,ys=>⟨#[40]⟩ ++jnF ⟨#[42]⟩ ys ++⟨#[41]⟩
 |6,[]=>⟨#[]⟩
 |6,ys=>⟨#[40]⟩ ++jnF ⟨#[44]⟩ ys.dropLast ++⟨#[45,62]⟩ ++ys.getLastD ⟨#[]⟩ ++⟨#[41]⟩
 |_,_=>⟨#[105,110,116]⟩
theorem sp6 (l:List ByteArray) (y:ByteArray):sp 6 (l ++[y])=⟨#[40]⟩ ++jnF ⟨#[44]⟩ l ++⟨#[45,62]⟩ ++y ++⟨#[41]⟩:=by
 obtain⟨z,r,e⟩:∃z r,l ++[y]=z ::r:=by cases l <;> exact⟨_,_,rfl⟩
 have h:sp 6 (l ++[y])=⟨#[40]⟩ ++jnF ⟨#[44]⟩ (l ++[y]).dropLast ++⟨#[45,62]⟩ ++(l ++[y]).getLastD ⟨#[]⟩ ++⟨#[41]⟩:=by rw[e];rfl
 rw[h,List.dropLast_concat,List.getLastD_concat]
section
variable {ts:Tys}{D:Dem}
theorem sub_of {i j a:Nat}(h:Rel ts D i j) (hk:kd ts j≠0) (A:a ∈ kids ts j):Sub ts D a i:=⟨j,_,_,a,h,jo7 hk,hk,A,.refl _⟩
theorem jxD:∀l:List Nat,(∀a ∈ l,∃n,SzR ts D a n)->∃n,jpk ts D l n
 |[],_=>⟨0,.nil⟩
 |a ::l,h=>by
  obtain⟨n,B⟩:=h a (by simp);obtain⟨m,A⟩:=jxD l (fun b hb=>h b (Yv _ hb));exact⟨_,.cons B A⟩
theorem jBU (A:Fin ts D) (i:Nat):∃n,SzR ts D i n:=by
 induction A i with
 |intro i _ ih=>
  by_cases h:∃j,Rel ts D i j/\kd ts j≠0
  .obtain⟨j,h1,h2⟩:=h
   obtain⟨n,B⟩:=jxD (kids ts j) (fun a ha=>ih a (sub_of h1 h2 ha));exact⟨_,.mk h1 h2 B⟩
  .exact⟨1,.opn fun j hj=>Yt fun hk=>h ⟨j,hj,hk⟩⟩
theorem jxh {sp:Nat->List ByteArray->ByteArray}:∀l:List Nat,(∀a ∈ l,∃y,TxR sp ts D a y)->∃ys,jpj sp ts D l ys
 |[],_=>⟨[],.nil⟩
 |a ::l,h=>by
  obtain⟨n,B⟩:=h a (by simp);obtain⟨m,A⟩:=jxh l (fun b hb=>h b (Yv _ hb));exact⟨_,.cons B A⟩
theorem jBo {sp:Nat->List ByteArray->ByteArray}(A:Fin ts D) (i:Nat):∃y,TxR sp ts D i y:=by
 induction A i with
 |intro i _ ih=>
  by_cases h:∃j,Rel ts D i j/\kd ts j≠0
  .obtain⟨j,h1,h2⟩:=h
   obtain⟨n,B⟩:=jxh (kids ts j) (fun a ha=>ih a (sub_of h1 h2 ha));exact⟨_,.mk h1 h2 B⟩
  .exact⟨_,.opn fun j hj=>Yt fun hk=>h ⟨j,hj,hk⟩⟩
open Classical in
noncomputable def szT (ts:Tys) (D:Dem) (i:Nat):Nat:=if h:∃n,SzR ts D i n then h.choose else 0
open Classical in
noncomputable def txT (ts:Tys) (D:Dem) (i:Nat):ByteArray:=if h:∃y,TxR sp ts D i y then h.choose else⟨#[]⟩
theorem js2 (A:Ok ts D) (i:Nat):SzR ts D i (szT ts D i):=by
 have h:=jBU A.2 i;unfold szT;rw[dif_pos h];exact h.choose_spec
theorem juF (A:Ok ts D) (i:Nat):TxR sp ts D i (txT ts D i):=by
 have h:=jBo (sp:=sp) A.2 i;unfold txT;rw[dif_pos h];exact h.choose_spec
theorem juP (A:Ok ts D) {i n:Nat}(h:SzR ts D i n):szT ts D i=n:=(js2 A i).one A.1 (.refl _) h
theorem juE (A:Ok ts D) {i:Nat}{y:ByteArray}(h:TxR sp ts D i y):txT ts D i=y:=(juF A i).one A.1 (.refl _) h
theorem jxC (A:Ok ts D):∀l:List Nat,jpk ts D l (l.map (szT ts D)).sum
 |[]=>.nil
 |a ::l=>by rw[Kt,List.sum_cons];exact .cons (js2 A a) (jxC A l)
theorem jxg (A:Ok ts D):∀l:List Nat,jpj sp ts D l (l.map (txT ts D))
 |[]=>.nil
 |a ::l=>.cons (juF A a) (jxg A l)
theorem sz_mk (A:Ok ts D) {i j:Nat}(h:Rel ts D i j) (hk:kd ts j≠0):szT ts D i=1+((kids ts j).map (szT ts D)).sum:=juP A (.mk h hk (jxC A _))
theorem sz_opn (A:Ok ts D) {i:Nat}(h:∀j,Rel ts D i j->kd ts j=0):szT ts D i=1:=juP A (.opn h)
theorem tx_mk (A:Ok ts D) {i j:Nat}(h:Rel ts D i j) (hk:kd ts j≠0):txT ts D i=sp (kd ts j) ((kids ts j).map (txT ts D)):=juE A (.mk h hk (jxg A _))
theorem tx_opn (A:Ok ts D) {i:Nat}(h:∀j,Rel ts D i j->kd ts j=0):txT ts D i=sp 0 []:=juE A (.opn h)
theorem rp_rel {f:Nat->Nat}(A:Rp ts D f) (i:Nat):Rel ts D i (f i):=(A.eq i (f i)).1 (A.idm i).symm
theorem jxZ {f:Nat->Nat}(A:Rp ts D f) {i:Nat}(h:kd ts (f i)=0):∀j,Rel ts D i j->kd ts j=0:=by
 intro j C;refine Yt fun hk=>?_;obtain⟨F,ys,B,E⟩:=A.hd j _ _ (jo7 hk) hk;rw[<-(A.eq i j).2 C]at B;exact E (jvM h _ _ B)
theorem sz_f {f:Nat->Nat}(B:Rp ts D f) (A:Ok ts D) (C:Bare ts) (i:Nat):szT ts D i=1+((kids ts (f i)).map (szT ts D)).sum:=by
 by_cases h:kd ts (f i)=0
 .rw[sz_opn A (jxZ B h),C _ h];rfl
 .exact sz_mk A (rp_rel B i) h
theorem tx_f {f:Nat->Nat}(B:Rp ts D f) (A:Ok ts D) (C:Bare ts) (i:Nat):txT ts D i=sp (kd ts (f i)) ((kids ts (f i)).map (txT ts D)):=by
 by_cases h:kd ts (f i)=0
 .rw[tx_opn A (jxZ B h),C _ h,h];rfl
 .exact tx_mk A (rp_rel B i) h
theorem sz_pos (A:Ok ts D) (i:Nat):1<=szT ts D i:=by
 have h:=js2 A i
 obtain⟨n,B⟩:∃n,szT ts D i=n:=⟨_,rfl⟩
 rw[B]at h ⊢
 cases h with
 |opn _=>omega
 |mk _ _ _=>omega
theorem jBT {ts':Tys}{φ:Nat->Nat}(h:Em ts ts' φ) (B:Dl ts.length D) (E:Back ts) (C:Ok ts D) (A:Ok ts' (mapD φ D)) {i:Nat}(hi:i<ts.length):szT ts' (mapD φ D) (φ i)=szT ts D i:=juP A ((js2 C i).map h B E hi)
theorem jBn {ts':Tys}{φ:Nat->Nat}(h:Em ts ts' φ) (B:Dl ts.length D) (E:Back ts) (C:Ok ts D) (A:Ok ts' (mapD φ D)) {i:Nat}(hi:i<ts.length):txT ts' (mapD φ D) (φ i)=txT ts D i:=juE A ((juF C i).map h B E hi)
theorem jnF_size (s:ByteArray):∀l:List ByteArray,(jnF s l).size<=(l.map fun y=>y.size+s.size).sum:=by
 have h:∀(r:List ByteArray) (x:ByteArray),(r.foldl (fun a y=>a ++s ++y) x).size=x.size+(r.map fun y=>y.size+s.size).sum:=by
  intro r
  induction r with
  |nil=>intro x;simp
  |cons y r ih=>
   intro x;rw[List.foldl_cons,ih,Kt,List.sum_cons,Ky,Ky];omega
 intro l
 cases l with
 |nil=>exact Yi _
 |cons x r=>
  show(r.foldl _ x).size<=_;rw[h,Kt,List.sum_cons];omega
theorem sum_le {α:Type}{f g:α->Nat}:∀l:List α,(∀a ∈ l,f a<=g a)->(l.map f).sum<=(l.map g).sum
 |[],_=>Yy _
 |a ::l,h=>by
  rw[Kt,List.sum_cons,Kt,List.sum_cons];have A:=h a (by simp);have B:=sum_le l (fun b hb=>h b (Yv _ hb));omega
theorem jCa (k:Nat) (ys:List ByteArray):(sp k ys).size+5<=12+(ys.map fun y=>y.size+5).sum:=by
 have A:∀s:ByteArray,s.size<=1->∀l:List ByteArray,(jnF s l).size<=(l.map fun y=>y.size+5).sum:=fun s hs l=>by
  have:=jnF_size s l;have:=sum_le (f:=fun y:ByteArray=>y.size+s.size) (g:=fun y=>y.size+5) l (fun a _=>by show a.size+s.size<=a.size+5;omega);omega
 unfold sp
 split
 .show 4+5<=_;omega
 .show 4+5<=_;omega
 .rw[Ky]
  have:=A ⟨#[]⟩ (Yi _) ys;show _+6+5<=_;omega
 .rw[Ky,Ky]
  have:=A ⟨#[42]⟩ (Yy _) ys;show 1+_+1+5<=_;omega
 .show 0+5<=_;omega
 .rw[Ky,Ky,Ky,Ky]
  show 1+_+2+_+1+5<=_
  rcases List.eq_nil_or_concat ys with rfl|⟨l,y,rfl⟩
  .show 1+0+2+0+1+5<=_;omega
  .have:=A ⟨#[44]⟩ (Yy _) l
   rw[List.concat_eq_append,List.dropLast_concat,Km,List.sum_append,List.getLastD_concat];simp only[Kt,List.map_nil,List.sum_cons,List.sum_nil];omega
 .show 3+5<=_;omega
theorem tx_size (A:Ok ts D) (i:Nat):(txT ts D i).size+5<=12*szT ts D i:=by
 induction A.2 i with
 |intro i _ ih=>
  by_cases h:∃j,Rel ts D i j/\kd ts j≠0
  .obtain⟨j,h1,h2⟩:=h
   rw[tx_mk A h1 h2,sz_mk A h1 h2];have hs:=jCa (kd ts j) ((kids ts j).map (txT ts D));rw[List.map_map]at hs;have B:=sum_le (f:=(fun y:ByteArray=>y.size+5) ∘ txT ts D) (g:=fun a=>12*szT ts D a) (kids ts j) (fun a ha=>ih a (sub_of h1 h2 ha))
   have he:∀l:List Nat,(l.map fun a=>12*szT ts D a).sum=12*(l.map (szT ts D)).sum:=by
    intro l
    induction l with
    |nil=>rfl
    |cons a l ih=>rw[Kt,List.sum_cons,Kt,List.sum_cons,ih];omega
   rw[he]at B;omega
  .rw[tx_opn A (fun j hj=>Yt fun hk=>h ⟨j,hj,hk⟩),sz_opn A (fun j hj=>Yt fun hk=>h ⟨j,hj,hk⟩)]
   decide
end
end Inf
namespace Dm
open Go.RowKit Tg
def kS:Nat->ByteArray
 |1=>⟨#[105,110,116]⟩
 |2=>⟨#[98,111,111,108]⟩
 |3=>⟨#[117,110,105,116]⟩
 |4=>⟨#[97,114,114,97,121]⟩
 |5=>⟨#[116,117,112,108,101]⟩
 |6=>⟨#[102,117,110]⟩
 |_=>⟨#[]⟩
def KT (w:World) (κ:Kp) (v:Value) (xs:List Nat):Prop:=(v= .slice none 0 0/\xs=[])\/∃(g off cap:Nat),v= .slice (some ⟨g,off,none⟩) xs.length cap/\xs.length<=cap/\κ g=none/\g<w.heap.size/\∀(j a:Nat),xs[j]? =some a->w.cell? ⟨g,off+j,none⟩=some (.int .i64 (a:Nat))
variable {w:World}{κ:Kp}{v:Value}{xs:List Nat}
theorem KT.keep {S:Tag->Prop}{w':World}{C:Kp}(h:KT w κ v xs) (A:Fr S κ C w w'):KT w' C v xs:=by
 rcases h with h|⟨g,off,cap,F,I,E,B,H⟩
 .exact .inl h
 .have hb:=A.rest g B (fun t ht=>by rw[E]at ht;cases ht)
  exact .inr ⟨g,off,cap,F,I,(A.old g B).trans E,Yj B A.low.size,fun j a hj=>(Ke (w:=w) (a:=⟨g,off+j,none⟩) hb).trans (H j a hj)⟩
theorem KT.slice (h:KT w κ v xs):∃a c,v= .slice a xs.length c:=by
 rcases h with⟨A,rfl⟩|⟨g,off,cap,A,_⟩
 .exact⟨_,_,A⟩
 .exact⟨_,_,A⟩
theorem KT.nil (w:World) (κ:Kp):KT w κ (.slice none 0 0) []:=.inl ⟨rfl,rfl⟩
structure DT where
 k:Nat
 xs:List Nat
 v:Value
def dtC (d:DT):List Value:=[.string (kS d.k),d.v]
def dmC (d:Inf.Dm):List Value:=[.int .i64 (d.a:Nat),.int .i64 (d.b:Nat),.int .i64 d.p,.int .i64 (if d.e then 6 else 0)]
def ntC (q:ByteArray × Nat × Int):List Value:=[.string q.1,.int .i64 (q.2.1:Nat),.int .i64 q.2.2]
structure DC (w:World) (κ:Kp) (cb:Nat) (tv av nv cv:Value) (ds:List DT) (S:Inf.DS):Prop where
 blk:w.heap[cb]? =some (.cells #[tv,av,nv,cv] 58 (0,0))
 tr:TR w κ (1,0) 86 2 tv ds.length (ds.flatMap dtC)
 ar:TR w κ (2,0) 82 4 av S.D.length (S.D.flatMap dmC)
 nr:TR w κ (3,0) 60 3 nv S.ns.length (S.ns.flatMap ntC)
 kds:∀(i:Nat) (d:DT),ds[i]? =some d->KT w κ d.v d.xs/\d.k<=6/\d.xs.length<=1000
 ts:ds.map (fun d=>(⟨d.k,d.xs⟩:Inf.Ty))=S.ts
 tg:κ cb=some (0,0)
 top:∀p,w.heap.size<=p->κ p=none
 n5:∀b n,κ b=some (5,n)->n<w.heap.size
variable {cb:Nat}{S:Inf.DS}
theorem DC.len {tv E C B:Value}{A:List DT}(h:DC w κ cb tv E C B A S):A.length=S.n:=by
 unfold Inf.DS.n;rw[<-h.ts];simp
def DM (w:World) (κ:Kp) (cb:Nat) (S:Inf.DS) (N:Nat):Prop:=∃tv av nv ds,DC w κ cb tv av nv (.slice none 0 0) ds S/\S.n<=N/\S.D.length<=N/\S.ns.length<=N
theorem DC.lt {w:World}{κ:Kp}{cb:Nat}{tv C E A:Value}{B:List DT}{S:Inf.DS}(h:DC w κ cb tv C E A B S):cb<w.heap.size:=jb h.blk
theorem DC.on {W:World}{tv E F B:Value}{C:List DT}(h:DC w κ cb tv E F B C S) (A:Below w.heap.size w W):DC W κ cb tv E F B C S:=
 ⟨(A.block cb h.lt).trans h.blk,h.tr.keep (S:=fun _=>False) (.of A) id,h.ar.keep (S:=fun _=>False) (.of A) id,h.nr.keep (S:=fun _=>False) (.of A) id,fun i d hd=>⟨(h.kds i d hd).1.keep (S:=fun _=>False) (.of A),(h.kds i d hd).2⟩,h.ts,h.tg,fun p hp=>h.top p (Ym A.size hp),fun b n hb=>Yj (h.n5 b n hb) A.size⟩
theorem DM.on {w W:World}{κ:Kp}{cb:Nat}{S:Inf.DS}{N:Nat}(h:DM w κ cb S N) (A:Below w.heap.size w W):DM W κ cb S N:=by
 obtain⟨tv,E,C,B,h,r⟩:=h;exact⟨tv,E,C,B,h.on A,r⟩
theorem DM.lt {w:World}{κ:Kp}{cb:Nat}{S:Inf.DS}{N:Nat}(h:DM w κ cb S N):cb<w.heap.size:=by
 obtain⟨tv,C,B,A,h,r⟩:=h;exact h.lt
theorem DM.mono {N A:Nat}(h:DM w κ cb S N) (C:N<=A):DM w κ cb S A:=by
 obtain⟨tv,E,F,B,h,a,b,c⟩:=h;exact⟨tv,E,F,B,h,by omega,by omega,by omega⟩
theorem DM.top {w:World}{κ:Kp}{cb:Nat}{S:Inf.DS}{N:Nat}(h:DM w κ cb S N):∀p,w.heap.size<=p->κ p=none:=by
 obtain⟨tv,C,B,A,h,r⟩:=h;exact h.top
def SD (t:Tag):Prop:=t=(0,0)\/t=(1,0)\/t=(2,0)\/t=(3,0)
theorem jxq {w':World}{t:Tag}{e:TypeId}{sz n E:Nat}{A:Value}{xs xs':List Value}(h:TR w κ t e sz v n xs) (B:w'.ownsRow 0 e sz A E xs') (H:w.grownBy w' v.ownBlock) (F:A.ownBlock=v.ownBlock\/A.ownBlock=some w.heap.size) :
 ∃κ',TR w' κ' t e sz A E xs'/\Fr (· =t) κ κ' w w'/\(∀b,w'.heap.size<=b->κ' b=κ b)/\∀b,κ' b=κ b\/κ' b=some t:=by
 have I:=Fr.grown (S:=(· =t)) (κ:=κ) H (fun k hk=>⟨t,h.tag k hk,rfl⟩);rcases F with C|C
 .exact⟨κ,⟨B,fun b hb'=>h.tag b (by rw[<-C];exact hb')⟩,I,fun _ _=>rfl,fun _=>.inl rfl⟩
 .have hs:=(B.lt _ C).2
  refine⟨jq κ w.heap.size t,⟨B,fun b hb'=>?_⟩,I.tags (fun b hb'=>by unfold jq;rw[if_neg (by omega)]),fun b hb'=>by unfold jq;rw[if_neg (by omega)],fun b=>?_⟩
  .rw[C]at hb';cases hb';unfold jq;rw[if_pos rfl]
  .unfold jq
   split
   .exact .inr rfl
   .exact .inl rfl
theorem jtd {Y w3:World}{fi sz n A g cap:Nat}{arr:Array Value}{Z e:TypeId}{t:Tag}{xs xs':List Value}(C:w.heap[cb]? =some (.cells arr Z (0,0))) (K:κ cb=some (0,0)) (O:∀p,w.heap.size<=p->κ p=none) (hR:TR w κ t e sz v n xs) (ht:t≠(0,0)) (B:Below w.heap.size w Y)
 (h3:w3.ownsRow 0 e sz (.slice (some ⟨g,0,none⟩) A cap) A xs') (h1:Y.grownBy w3 v.ownBlock) (h2:v.ownBlock=some g\/g=Y.heap.size) :
 ∃κ',(w3.setCell ⟨cb,fi,none⟩ (.slice (some ⟨g,0,none⟩) A cap)).heap[cb]? =some (.cells (arr.setIfInBounds fi (.slice (some ⟨g,0,none⟩) A cap)) Z (0,0))/\κ' cb=some (0,0)/\
  TR (w3.setCell ⟨cb,fi,none⟩ (.slice (some ⟨g,0,none⟩) A cap)) κ' t e sz (.slice (some ⟨g,0,none⟩) A cap) A xs'/\Fr (fun u=>u=(0,0)\/u=t) κ κ' w (w3.setCell ⟨cb,fi,none⟩ (.slice (some ⟨g,0,none⟩) A cap))/\
  (∀p,(w3.setCell ⟨cb,fi,none⟩ (.slice (some ⟨g,0,none⟩) A cap)).heap.size<=p->κ' p=none)/\∀b,κ' b=κ b\/κ' b=some t:=by
 have h6:=hR.keep (S:=fun _=>False) (.of B) id;have F:=(B.block cb (jb C)).trans C
 obtain⟨R,h4,E,U,h7⟩:=jxq h6 h3 h1 (by
  rcases h2 with e|e
  .exact .inl e.symm
  .exact .inr (by rw[e];rfl))
 obtain⟨I,h5⟩:∃I,Value.slice (some ⟨g,0,none⟩) A cap=I:=⟨_,rfl⟩
 rw[h5]at h4 ⊢;have W:w3.heap[cb]? =some (.cells arr Z (0,0)):=(E.rest cb (jb F) (fun u hu e=>by rw[K]at hu;cases hu;exact ht e.symm)).trans F;have H:R cb=some (0,0):=(E.old cb (jb F)).trans K;have h0:Fr (· =(0,0)) R R w3 (w3.setCell ⟨cb,fi,none⟩ I):=Fr.lone ((jn4.refl cb w3).set fi I) H rfl;refine⟨R,jf W fi I,H,h4.keep h0 (by intro e;exact ht e),((Fr.of B).trans (E.mono (fun u e=>.inr e))).trans (h0.mono (fun u e=>.inl e)),fun p hp=>?_,h7⟩;rw[jy]at hp;rw[U p hp];exact O p (by have:=B.size;have:=E.low.size;omega)
theorem Tryz.kiK:(Tryz.prog.info? 86).map (fun i=>(i.zero,i.size,i.bytes))=some (some (.agg #[.string ⟨#[]⟩,.slice none 0 0]),2,40):=by kernel_rfl
theorem Tryz.kuK:Tryz.prog.underlying 53=some (.slice 86):=by kernel_rfl
def NQ (cb:Nat) (κ:Kp) (w:World) (S':Inf.DS) (N' t:Nat) (e:Ending) (w':World):Prop:=∃κ':Kp,e= .returned (.int .i64 (t:Nat))/\Fr SD κ κ' w w'/\DM w' κ' cb S' N'
def VQ (cb:Nat) (κ:Kp) (w:World) (S':Inf.DS) (N':Nat) (e:Ending) (w':World):Prop:=e= .returned (.tuple #[])/\∃κ':Kp,Fr SD κ κ' w w'/\DM w' κ' cb S' N'
set_option maxRecDepth 100000 in
theorem joU {N k:Nat}{kv:Value}{s:ByteArray}(h:DM w κ cb S N) (hN:N<90000) (hk:KT w κ kv xs) (h0:k<=6) (hx:xs.length<=1000) (hs:s=kS k) :
 Calls Tryz.prog 51 #[.pointer (some ⟨cb,0,none⟩),.string s,kv] w (NQ cb κ w (S.put k xs) (N+1) S.n):=by
 subst hs;obtain⟨tv,av,nv,Y,h,k9,h4,h8⟩:=h;obtain⟨i0,k1,h3,k5,h6⟩:=info_parts Tryz.kiK;obtain⟨W,kc,K⟩:=hk.slice;have h9:=jH K;obtain⟨ta,Z,A,_⟩:=h.tr.any;have h2:=jH A
 obtain⟨n,U⟩:∃n,Y.length=n:=⟨_,rfl⟩
 have HN:=jH U;rw[U]at A
 obtain⟨m,hm⟩:∃m,xs.length=m:=⟨_,rfl⟩
 have HM:=jH hm;rw[hm]at K;have F:=h.len;rw[U]at F;have HL:=jH F;have c0:w.cell? ⟨cb,0,none⟩=some (.slice ta n Z):=by rw[<-A];exact ja h.blk 0 rfl
 have hl:=h.lt;have B:=jH h;have HK:=jH hk;have hr:w.ownsRow 0 86 2 (.slice ta n Z) n (Y.flatMap dtC):=by have:=h.tr.own;rw[U,A]at this;exact this
 have HR:=jH hr;have k7:n<90000:=by omega
 obtain⟨E,R⟩:∃E,kS k=E:=⟨_,rfl⟩
 have h5:=jH R;have HV:=jH (show ∀b,(Value.slice ta n Z).ownBlock=some b->b≠cb from fun b hb e=>by rw[<-A]at hb;have:=h.tr.tag b hb;rw[e,h.tg]at this;cases this);have h1:=jH h.blk;rw[K,R];clear h hk K A U hm F hr R
 go_enter Tryz.func51,Tryz.ntmps51
 go_wp2_with (at_builtin;refine JO _ rfl (.tmp 11) (.tmp 15) 53 rfl 0 86 i0 _ 2 40 Tryz.kuK k1 h3 k5 h6 rfl (by decide) (.slice ta n Z) n (Y.flatMap dtC) rfl (HR.o.alloc _) ⟨w.heap.size,0,none⟩ 1 1 [.string E,.slice W m kc] rfl rfl (Ja _ _ _ _ rfl) ?_ ?_ ?_ ?_ ?_;(intro u hu;simp at hu;rcases hu with rfl|rfl <;> rfl);(unfold maxLen;omega);omega;(exact Yi _);intro v3 w3 H I k4;have C:=jAx (κ:=κ) h1.o HV.o I;obtain⟨g,cap,h7,_⟩:=jaf H (by omega);subst h7;have d3:=ja C 0 rfl;have e3:=je C 0;have k8:=jb C;have k3:(w3.setCell ⟨cb,0,none⟩ (.slice (some ⟨g,0,none⟩) (n+1) cap)).cell? ⟨cb,0,none⟩=some (.slice (some ⟨g,0,none⟩) (n+1) cap):=ja (jf C 0 _) 0 rfl)
 go_returns;have k2:Below w.heap.size w (w.alloc (.cells #[.string E,.slice W m kc] 86 (0,0))):=jB.alloc jN _;have ht:=h2.o;rw[HN.o]at ht
 obtain⟨κ',p1,p2,p3,O,p5,p6⟩:=jtd (fi:=0) h1.o B.o.tg B.o.top B.o.tr (by decide) k2 H (by rw[ht];exact I) (by
  rw[ht];rcases k4 with e|e
  .exact .inl e.symm
  .exact .inr (Uf e))
 refine⟨κ',by rw[<-HL.o];first|rfl|(show Ending.returned (.int .i64 _)=_;congr 2;omega),O.mono (fun u e=>by rcases e with e|e;exact .inl e;exact .inr (.inl e)),_,av,nv,Y ++[⟨k,xs,.slice W m kc⟩],⟨p1,?_,B.o.ar.keep O (by rintro (e|e) <;> cases e),B.o.nr.keep O (by rintro (e|e) <;> cases e),fun i d hd=>?_,?_,p2,p5,fun b q hb=>?_⟩,?_,by exact Nat.le_succ_of_le h4,by exact Nat.le_succ_of_le h8⟩
 .rw[Yg,List.flatMap_append,HN.o]
  show TR _ _ _ _ _ _ (n+1) _;rw[show[(⟨k,xs,.slice W m kc⟩:DT)].flatMap dtC=[.string E,.slice W m kc] by simp[dtC,h5.o]];exact p3
 .rcases jr5 hd with hd|⟨_,rfl⟩
  .exact⟨(B.o.kds i d hd).1.keep O,(B.o.kds i d hd).2⟩
  .refine⟨?_,h0,hx⟩
   have:=HK.o.keep O;have e:=h9.o;rw[HM.o]at e;rw[e]at this;exact this
 .rw[Km,B.o.ts];rfl
 .rcases p6 b with e|e
  .rw[e]at hb;exact Yj (B.o.n5 b q hb) O.low.size
  .rw[e]at hb;cases hb
 .show(S.put k xs).n<=N+1
  rw[Inf.put_n];omega
end Dm
end Go.Proofs.YtlpmpelnhdoboaaGreatDoor
