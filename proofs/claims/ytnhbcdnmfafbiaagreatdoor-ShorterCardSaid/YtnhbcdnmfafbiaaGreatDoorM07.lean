import Derived.Test.YtnhbcdnmfafbiaaGreatDoorM06
import Derived.Deep.LoopGhost
set_option linter.unusedVariables false
set_option linter.unusedSimpArgs false
set_option maxHeartbeats 20000000
namespace Go.Proofs.YtnhbcdnmfafbiaaGreatDoor
namespace V
open Go.RowKit
section
variable {T:Tb}{c c' c'':Cf}
theorem jT7:∀(as:List Arg) (i:Nat) (bs:List (List C)),(∀l,.bp l ∉ as)->bpR i as bs=[]
 |[],i,bs,_=>by cases bs <;> rfl
 |x ::as,i,bs,h=>by
  have B:∀l,.bp l ∉ as:=fun l hl=>h l (List.mem_cons_of_mem _ hl)
  cases x with
  |bp l=>exact absurd (List.mem_cons_self ..) (h l)
  |_=>simp only[bpR];exact jT7 as _ bs B
theorem jT6:∀(as:List Arg) (i j:Nat) (l b:List C),as[j]? =some (.bp l)->(∀k l',as[k]? =some (.bp l')->k=j)->bpR i as [b]=[(i+j,⟨0,b⟩)]
 |[],i,j,l,b,h,_=>by simp at h
 |x ::as,i,0,l,b,h,hu=>by
  simp only[List.getElem?_cons_zero,Option.some.injEq]at h;subst h;simp only[bpR]
  rw[jT7 as _ [] (fun l' hl'=>by
   obtain⟨k,hk⟩:=List.getElem?_of_mem hl';have:=hu (k+1) l' (by simpa using hk)
   omega)]
  rfl
 |x ::as,i,j+1,l,b,h,hu=>by
  have ih:=jT6 as (i+1) j l b (by simpa using h) (fun k l' hk=>by have:=hu (k+1) l' (by simpa using hk);omega);have e:i+1+j=i+(j+1):=by omega
  rw[e]at ih
  cases x with
  |bp l'=>have:=hu 0 l' rfl;omega
  |_=>exact ih
theorem jZS (J:Ok T c) {Fow X0:List Nat}(P:c.X=Fow ++X0) {O cd:Cf}(h7:Ok T O) (V:O.w=c.w) (hA:O.A=c.A) (Y:∀g,Ow T O g->g ∈ Fow) (hd:Ok T cd) (hs:Stp T O cd) {E:List Nat}(hR:E=[]\/∃R,lkr T cd.st.rt RK=some R/\own R=true/\E=cd.fp RK) :
 Ok T {c with w:=cd.w,A:=cd.A,X:=E ++X0}/\Stp T c {c with w:=cd.w,A:=cd.A,X:=E ++X0}:=by
 have h6:∀g ∈ E,Ow T cd g:=fun g hg=>by
  rcases hR with rfl|⟨R,B,h2,rfl⟩
  .cases hg
  .exact .inl ⟨RK,R,B,h2,hg⟩
 have h5:E.Nodup:=by
  rcases hR with rfl|⟨R,B,h2,rfl⟩
  .exact List.nodup_nil
  .exact hd.sx.sr.nd RK R B
 have h3:∀g ∈ E,g ∈ Fow\/c.w.heap.size<=g:=fun g hg=>by
  rcases hs.ow g (h6 g hg)with h|h
  .exact .inl (Y g h)
  .rw[V]at h;exact .inr h
 have h4:∀g ∈ E,g<cd.w.heap.size/\¬cd.A g:=fun g hg=>by
  rcases hR with rfl|⟨R,B,h2,rfl⟩
  .cases hg
  .exact⟨jKa hd.sx.sr hg,hd.sx.sr.fa RK R B h2 g hg⟩
 have hlow:Below 0 c.w cd.w:=by have:=hs.low;rw[V]at this;exact this
 have M:=J.sx.nd;rw[P,List.nodup_append]at M;have G:∀g ∈ X0,g ∈ c.X:=fun g hg=>by rw[P];simp[hg]
 have Z:∀k,cd.A k->(c.A k\/k ∈ Fow\/c.w.heap.size<=k):=fun k hk=>by
  rcases hs.fb k hk with h|h|h
  .rw[hA]at h;exact .inl h
  .exact .inr (.inl (Y k h))
  .rw[V]at h;exact .inr (.inr h)
 refine J.world (fun k hk hne=>?_) hlow (fun k hk=>hs.fa k (by rw[hA];exact hk)) (fun k hk=>⟨?_,hd.al k hk⟩) ?_ (fun g hg=>?_)
 .have:=hs.kp k (by rw[V];exact hk) (fun h=>hne (by rw[P];simp[Y k h]))
  rw[this,V]
 .rcases Z k hk with h|h|h
  .exact .inl h
  .exact .inr (.inl (by rw[P];simp[h]))
  .exact .inr (.inr h)
 .rw[List.nodup_append]
  refine⟨h5,M.2.1,fun x hx y hy e=>?_⟩;subst e;rcases h3 x hx with h|h
  .exact M.2.2 x h x hy rfl
  .have:=J.sx.lt x (G x hy);omega
 .rcases List.mem_append.1 hg with h|h
  .refine⟨?_,h4 g h⟩
   rcases h3 g h with h|h
   .exact .inl (by rw[P];simp[h])
   .exact .inr h
  .refine⟨.inl (G g h),Nat.lt_of_lt_of_le (J.sx.lt g (G g h)) hlow.size,fun h'=>?_⟩
   rcases Z g h' with B|B|B
   .exact J.sx.na g (G g h) B
   .exact M.2.2 g B g h rfl
   .have:=J.sx.lt g (G g h);omega
theorem jZR (G:Ok T c) {Fow X0:List Nat}(hX:c.X=Fow ++X0) {cc cd:Cf}(y0:Ok T cc) (hw:cc.w=c.w) (hA:cc.A=c.A)
 {p:Pth}{n:Nat}{R:Rt}(hRr:lkr T c.st.rt p.r=some R) (r4:own R=true) (h9:R.kd≠9) (y1:p.p=[]->isV R=false) (x2:p.r<1000000) {J a1:Nat}{h3:Array Value}{q9:TypeId}{k6:Nat × Nat}{F1 Fs F2:List Nat}(s2:c.w.heap[J]? =some (.cells h3 q9 k6)) (P:c.fp p.r=F1 ++Fs ++F2) (s8:J ∈ F1)
 (s10:∀(w':World) (A':Nat->Prop) (new:List C) (Fn:List Nat),Trn c.w w' c.A A' J a1 n h3 q9 k6 new Fn (F1 ++F2)->∃cs' vs',sL p.p R.cs p.o new=some cs'/\cs'.length=R.cs.length/\vs'.length=(c.mo p.r).vs.length/\jJM w' A' ⟨R.kd,cs'⟩ {c.mo p.r with vs:=vs'} (F1 ++Fn ++F2)/\∀i,(p.p≠[]\/i<p.o\/p.o+n<=i)->vs'[i]? =(c.mo p.r).vs[i]?)
 (ho:∀g,Ow T cc g->g ∈ Fow\/g ∈ J ::Fs) {ib:Nat}{lb b:List C}(hm:cc.mo ib=⟨J,a1,(h3.toList.drop a1).take n,h3,q9,k6⟩) (x0:lkr T cc.st.rt ib=some ⟨0,lb⟩) (y2:lb.length=n) (O:lkr T cd.st.rt ib=some ⟨0,b⟩) (r6:ib≠RK)
 (hd:Ok T cd) (hs:Stp T cc cd) {FR:List Nat}(hR:FR=[]\/∃R,lkr T cd.st.rt RK=some R/\own R=true/\FR=cd.fp RK) {k4:St}(h5:V.setP T c.st p b=some k4) :
 ∃mo2 fp2,Ok T ⟨cd.w,cd.A,k4,mo2,fp2,c.a,FR ++X0⟩/\Stp T c ⟨cd.w,cd.A,k4,mo2,fp2,c.a,FR ++X0⟩:=by
 have hS:=G.sx.sr;have y3:=hS.nd _ _ hRr;have v7:=hS.fa _ _ hRr r4;have hlow:Below 0 c.w cd.w:=by have:=hs.low;rw[hw]at this;exact this
 have k1:=G.sx.nd;rw[hX,List.nodup_append]at k1;have M:∀g ∈ X0,g ∈ c.X:=fun g hg=>by rw[hX];simp[hg]
 have h6:∀g ∈ Fow,g ∈ c.X:=fun g hg=>by rw[hX];simp[hg]
 have r8:=y3;rw[P,List.append_assoc,List.nodup_append]at r8;obtain⟨nA,nB,nC⟩:=r8;rw[List.nodup_append]at nB;have v8:J ∈ c.fp p.r:=by rw[P];simp[s8]
 obtain⟨R',e1,e2,e3,e4⟩:=hs.pr ib _ x0 rfl;rw[O]at e1;cases e1;have k8:b.length=n:=by have e3:b.length=lb.length:=e3;omega
 have h8:=e4;rw[hm]at h8;simp only[base,Prod.mk.injEq]at h8;obtain⟨b1,b2,b3,b4,b5⟩:=h8;have r9:=hd.sx.sr.rts ib _ O;unfold jJM at r9;rw[if_neg (by simp),if_neg (by simp[isV])]at r9;obtain⟨k5,r1,q1,q2,q3,q4,q5,_⟩:=r9;rw[b1,b2,b4,b5]at q2;rw[b3]at q4 q5;rw[b2]at q5;rw[b1]at q1;have k7:=hd.sx.sr.nd ib _ O;rw[q1,List.nodup_cons]at k7;have v6:∀g ∈ cd.fp ib,¬cd.A g:=hd.sx.sr.fa ib _ O rfl
 have k9:∀g,Ow T cd g->g ∈ Fow\/g ∈ J ::Fs\/c.w.heap.size<=g:=fun g hg=>by
  rcases hs.ow g hg with h|h
  .rcases ho g h with h|h
   .exact .inl h
   .exact .inr (.inl h)
  .rw[hw]at h;exact .inr (.inr h)
 have h7:∀g ∈ k5,g ∈ Fow\/g ∈ Fs\/c.w.heap.size<=g:=fun g hg=>by
  rcases k9 g (.inl ⟨ib,_,O,rfl,by rw[q1];simp[hg]⟩)with h|h|h
  .exact .inl h
  .rcases List.mem_cons.1 h with h|h
   .rw[h]at hg;exact absurd hg k7.1
   .exact .inr (.inl h)
  .exact .inr (.inr h)
 have x1:∀k,k ∈ F1 ++F2->k≠J->¬Ow T cc k:=fun k hk hne h=>by
  have k3:k ∈ c.fp p.r:=by rw[P];simp at hk ⊢;rcases hk with h|h <;> simp[h]
  rcases ho k h with h|h
  .exact G.sx.dj k (h6 k h) p.r k3
  .rcases List.mem_cons.1 h with h|h
   .exact hne h
   .rcases List.mem_append.1 hk with B|B
    .exact nC k B k (by simp[h]) rfl
    .exact nB.2.2 k h k B rfl
 have x7:∀k,c.A k->¬Ow T cc k:=fun k hk h=>by
  rcases ho k h with h|h
  .exact G.sx.na k (h6 k h) hk
  .refine v7 k ?_ hk
   rcases List.mem_cons.1 h with h|h
   .rw[h];exact v8
   .rw[P];simp[h]
 have v1:∀k,k<c.w.heap.size->¬Ow T cc k->cd.w.heap[k]? =c.w.heap[k]?:=fun k hk h=>by
  have:=hs.kp k (by rw[hw];exact hk) h;rw[this,hw]
 have r7:∀k ∈ c.fp p.r,k<c.w.heap.size:=fun k hk=>jKa hS hk
 have x8:∀i,i<a1\/a1+n<=i->r1[i]? =h3[i]?:=fun i hi=>by
  have hq:=q5 i (by show i<a1\/a1+b.length<=i;rw[k8];exact hi);rw[hq]
 obtain⟨cs',vs',t1,t2,t3,t4,t5⟩:=s10 cd.w cd.A b k5 ⟨k8,⟨r1,q2.blk,q4,fun i hi=>x8 i hi,by have:=q2.rl;rw[k8]at this;exact this⟩,fun k hk=>⟨hs.fa k (by rw[hA];exact hk),v1 k (G.al k hk) (x7 k hk)⟩,fun k hk hne=>v1 k (r7 k (by rw[P];simp at hk ⊢;rcases hk with h|h <;> simp[h])) (x1 k hk hne)⟩
 have x9:k4=⟨jKt p.r p.o (if p.p.isEmpty then b.length else 0) c.st.tm,upR c.st.rt p.r ⟨R.kd,cs'⟩⟩:=by
  unfold V.setP at h5
  split at h5
  .rw[hRr]at h5
   simp only at h5
   split at h5
   .split at h5
    .rw[t1]at h5
     simp only at h5;cases h5;rfl
    .cases h5
   .cases h5
  .cases h5
 subst x9
 have r3:∀g ∈ FR,Ow T cd g/\g ∉ cd.fp ib/\g<cd.w.heap.size/\¬cd.A g:=fun g hg=>by
  rcases hR with rfl|⟨R',E,h2,rfl⟩
  .cases hg
  .exact⟨.inl ⟨RK,R',E,h2,hg⟩,hd.sx.sr.dj RK ib R' _ (Ne.symm r6) E O h2 g hg,jKa hd.sx.sr hg,hd.sx.sr.fa RK R' E h2 g hg⟩
 have x6:FR.Nodup:=by
  rcases hR with rfl|⟨R',E,h2,rfl⟩
  .exact List.nodup_nil
  .exact hd.sx.sr.nd RK R' E
 have r2:∀k,cd.A k->c.A k\/k ∈ Fow\/k ∈ J ::Fs\/c.w.heap.size<=k:=fun k hk=>by
  rcases hs.fb k hk with h|h|h
  .rw[hA]at h;exact .inl h
  .rcases ho k h with h|h
   .exact .inr (.inl h)
   .exact .inr (.inr (.inl h))
  .rw[hw]at h;exact .inr (.inr (.inr h))
 have k2:∀k ∈ J ::Fs,k ∈ c.fp p.r:=fun k hk=>by
  rcases List.mem_cons.1 hk with h|h
  .rw[h];exact v8
  .rw[P];simp[h]
 have h4:∀x ∈ F1 ++F2,x≠J->∀y,(y ∈ Fow\/y ∈ Fs\/c.w.heap.size<=y)->x≠y:=fun x hx hne y hy e=>by
  subst e;have x4:x ∈ c.fp p.r:=by rw[P];simp at hx ⊢;rcases hx with h|h <;> simp[h]
  rcases hy with h|h|h
  .exact G.sx.dj x (h6 x h) p.r x4
  .exact x1 x hx hne |>.elim (by
    exfalso;rcases List.mem_append.1 hx with B|B
    .exact nC x B x (by simp[h]) rfl
    .exact nB.2.2 x h x B rfl)
  .have:=r7 x x4;omega
 have r5:J ∉ k5:=k7.1
 obtain⟨d1,d2⟩:=G.turn (o:=p.o) (n:=if p.p.isEmpty then b.length else 0) (w':=cd.w) (A':=cd.A) (X':=FR ++X0) (R':=⟨R.kd,cs'⟩) (m':={c.mo p.r with vs:=vs'}) (F':=F1 ++k5 ++F2) hRr r4 rfl t2 rfl t3 (fun i hi=>t5 i (by
  cases hpp :p.p with
  |nil=>rw[hpp]at hi;exact .inr (by rw[<-k8];exact hi)
  |cons x y=>exact .inl (by simp))) x2
  (fun k hk E h2=>v1 k hk fun h=>by
   rcases ho k h with h|h
   .exact h2 (h6 k h)
   .exact E (k2 k h))
  hlow (fun k hk=>hs.fa k (by rw[hA];exact hk))
  (fun k hk=>⟨by
   rcases r2 k hk with h|h|h|h
   .exact .inl h
   .exact .inr (.inr (.inl (h6 k h)))
   .exact .inr (.inl (k2 k h))
   .exact .inr (.inr (.inr h)),hd.al k hk⟩)
  t4
  (by
   rw[List.append_assoc,List.nodup_append];refine⟨nA,?_,fun x hx y hy=>?_⟩
   .rw[List.nodup_append]
    refine⟨k7.2,nB.2.1,fun x hx y hy e=>?_⟩
    by_cases x5:y=J
    .rw[e,x5]at hx;exact r5 hx
    .exact h4 y (by simp[hy]) x5 x (h7 x hx) e.symm
   .rcases List.mem_append.1 hy with h|h
    .intro e
     by_cases x3:x=J
     .rw[<-e,x3]at h;exact r5 h
     .exact h4 x (by simp[hx]) x3 y (h7 y h) e
    .exact nC x hx y (by simp[h]))
  (fun k hk hAk=>by
   simp only[List.mem_append]at hk
   have Z:k ∈ F1 ++F2->False:=fun hk'=>by
    by_cases Y:k=J
    .exact v6 k (by rw[q1,Y];simp) hAk
    .have k3:k ∈ c.fp p.r:=by rw[P];simp at hk' ⊢;rcases hk' with h|h <;> simp[h]
     rcases r2 k hAk with h|h|h|h
     .exact v7 k k3 h
     .exact G.sx.dj k (h6 k h) p.r k3
     .rcases List.mem_cons.1 h with h|h
      .exact Y h
      .exact h4 k hk' Y k (.inr (.inl h)) rfl
     .have:=r7 k k3;omega
   rcases hk with(h|h)|h
   .exact Z (by simp[h])
   .exact v6 k (by rw[q1];simp[h]) hAk
   .exact Z (by simp[h]))
  (fun k hk=>by
   simp only[List.mem_append]at hk;rcases hk with(h|h)|h
   .exact .inl (by rw[P];simp[h])
   .rcases h7 k h with h|h|h
    .exact .inr (.inl (h6 k h))
    .exact .inl (by rw[P];simp[h])
    .exact .inr (.inr h)
   .exact .inl (by rw[P];simp[h]))
  (by
   rw[List.nodup_append];refine⟨x6,k1.2.1,fun x hx y hy e=>?_⟩;subst e;rcases k9 x (r3 x hx).1 with h|h|h
   .exact k1.2.2 x h x hy rfl
   .exact G.sx.dj x (M x hy) p.r (k2 x h)
   .have:=G.sx.lt x (M x hy);omega)
  (fun k hk hAk=>by
   rcases List.mem_append.1 hk with h|h
   .exact(r3 k h).2.2.2 hAk
   .rcases r2 k hAk with E|E|E|E
    .exact G.sx.na k (M k h) E
    .exact k1.2.2 k E k h rfl
    .exact G.sx.dj k (M k h) p.r (k2 k E)
    .have:=G.sx.lt k (M k h);omega)
  (fun k hk=>by
   rcases List.mem_append.1 hk with h|h
   .obtain⟨z1,z2,z3,z4⟩:=r3 k h
    refine⟨?_,fun B=>?_,z3⟩
    .rcases k9 k z1 with h|h|h
     .exact .inr (.inl (h6 k h))
     .exact .inl (k2 k h)
     .exact .inr (.inr h)
    .simp only[List.mem_append]at B
     have Z:k ∈ F1 ++F2->False:=fun hk'=>by
      by_cases Y:k=J
      .exact z2 (by rw[q1,Y];simp)
      .rcases k9 k z1 with h|h|h
       .exact h4 k hk' Y k (.inl h) rfl
       .rcases List.mem_cons.1 h with h|h
        .exact Y h
        .exact h4 k hk' Y k (.inr (.inl h)) rfl
       .exact h4 k hk' Y k (.inr (.inr h)) rfl
     rcases B with(B|B)|B
     .exact Z (by simp[B])
     .exact z2 (by rw[q1];simp[B])
     .exact Z (by simp[B])
   .refine⟨.inr (.inl (M k h)),fun B=>?_,Nat.lt_of_lt_of_le (G.sx.lt k (M k h)) hlow.size⟩
    simp only[List.mem_append]at B;rcases B with(B|B)|B
    .exact G.sx.dj k (M k h) p.r (by rw[P];simp[B])
    .rcases h7 k B with E|E|E
     .exact k1.2.2 k E k h rfl
     .exact G.sx.dj k (M k h) p.r (by rw[P];simp[E])
     .have:=G.sx.lt k (M k h);omega
    .exact G.sx.dj k (M k h) p.r (by rw[P];simp[B]))
 exact⟨_,_,d1,d2⟩
end
def jLC:List Operand->List Nat->List TypeId->Qs
 |[],_,_=>[]
 |x ::xs,ms,ts=>(x,ms.headD 0,ts.headD 0) ::jLC xs ms.tail ts.tail
def alB (T:Tb) (st:St) (bp:Option Pth) (qs:Qs):Bool:=qs.all fun q=>!(q.2.1 == 5) || match alA (evo T st q.1) with
 |none=>true
 |some (r,o,_)=>match bp,qs with
  |some p,q0 ::_=>p.p.isEmpty && p.o == 0 && p.r == r && q0.2.1 == 3 && Nat.blt o (bxz T q0.2.2)
  |_,_=>false
def apO (T:Tb) (st:St) (bp:Option Pth) (qs:Qs):Bool:=(match bp with
 |some p=>jUi T st p.r qs
 |none=>true) && alB T st bp qs
theorem JeD {T:Tb}{st:St}{bp:Option Pth}{B:Qs}(h:alB T st bp B=true) {q:Operand × Nat × TypeId}(J:q ∈ B) (hm:q.2.1=5) {r o:Nat}{k:Nat × Nat × Nat}(ha:alA (evo T st q.1)=some (r,o,k)):bp=some ⟨r,0,[]⟩/\∃q0,B[0]? =some q0/\q0.2.1=3/\o<bxz T q0.2.2:=by
 have h:=List.all_eq_true.1 h q J;rw[hm,ha]at h;simp only[BEq.rfl,Bool.not_true,Bool.false_or]at h
 cases bp with
 |none=>cases B <;> cases h
 |some p=>
  cases B with
  |nil=>cases h
  |cons q0 B=>
   simp only[Bool.and_eq_true,beq_iff_eq,List.isEmpty_iff]at h;obtain⟨⟨⟨⟨E,h2⟩,G⟩,M⟩,O⟩:=h;refine⟨?_,q0,rfl,M,Nat.le_of_ble_eq_true O⟩;cases p;simp only at E h2 G;rw[E,h2,G]
theorem Jh6 {w w':World}{m m':Mo}{o:Nat}{k:Nat × Nat × Nat}(h:m'.vs[o]? =m.vs[o]?):ad w' m' o [k]=ad w m o [k]:=by
 obtain⟨z,j,q⟩:=k;simp only[ad,h]
 congr 1
def plR (rs:List Arg):Bool:=rs.all fun x=>match x with
 | .pl y=>jKg y
 |_=>true
def jMu (T:Tb) (st:St) (qs:Qs):Option (List Arg × St × Option Pth):=match take1 T st qs with
 |some (l,one,st1)=>match jMb T st1 (l,one) qs with
  |some as=>match bpP T st1 qs with
   |some bp=>if Nat.ble qs.length 1000 && jLb st1 && apO T st1 bp qs then some (as,st1,bp) else none
   |none=>none
  |none=>none
 |none=>none
def jMv (T:Tb) (n:Nat) (d:Option Nat) (st1:St) (bp:Option Pth) (rs:List Arg) (bs:List (List C)):Option St:=if plR rs then match jUd T st1 bp bs with
 |some st2=>jNR T n st2 d rs
 |none=>none else none
theorem jSa (g:Operand->Value):∀(xs:List Operand) (ms:List Nat) (ts:List TypeId),(jLC xs ms ts).map (fun q=>g q.1)=xs.map g
 |[],_,_=>rfl
 |x ::xs,ms,ts=>by simp[jLC,jSa g xs]
theorem jYU {a:Act}{o:Oper}{f:FuncId}{xs:Array Operand}{B:Array TypeId}(E:o.op= .call ⟨.value (.func f),xs,B⟩):execOp a.eval o=callFunc f (#[] ++xs.map a.eval ++#[]):=by
 obtain⟨O,op,M,P,G,J⟩:=o;simp only at E;subst E;rfl
theorem jgN {P:Program}{f:FuncId}{args:Array Value}{w:World}(h:jRb P f):(callFunc f args).run P w= .ok (.enter f args) w:=by
 obtain⟨fn,hf,E,B⟩:=h.ex;have:fn.body.isNone=false:=by cases hfb :fn.body <;> simp_all
 unfold callFunc;simp only[Sem.run_bind,run_program,Result.andThen_ok,hf];rw[if_neg (by rw[B];decide),if_neg (by rw[this];decide)];rfl
theorem jSW {T:Tb}:∀(as:List Arg) (bs:List (List C)) (i k:Nat) (rest:List (Nat × Rt)),i+as.length<=k->lkr T (bpR i as bs ++rest) k=lkr T rest k
 |[],bs,i,k,rest,_=>by cases bs <;> rfl
 |x ::as,bs,i,k,rest,h=>by
  rw[List.length_cons]at h;have next :∀bs',lkr T (bpR (i+1) as bs' ++rest) k=lkr T rest k:=fun bs'=>jSW as bs' (i+1) k rest (by omega)
  cases x with
  |bp l=>
   cases bs with
   |nil=>exact next []
   |cons b bs=>
    simp only[bpR,List.cons_append,lkr];rw[if_neg (by omega)];exact next bs
  |pl y=>exact next bs
  |ow l one=>exact next bs
  |rv l one=>exact next bs
  |br l=>exact next bs
theorem jP8:∀(rs:List Arg) {l:List C}{one:Bool},.ow l one ∈ rs->jKw rs=true
 |[],l,one,h=>by cases h
 |r ::rs,l,one,h=>by
  cases r with
  |ow=>rfl
  |_=>rcases List.mem_cons.1 h with h|h;cases h;exact jP8 rs h
section
variable {T:Tb}{c c' c'':Cf}{n:Nat}{act:Act}
theorem jID (hc:Ok T c) (J:Ar n c act) {X0:List Nat}{M:List Nat}{w':World}{A':Nat->Prop}{mo:Nat->Mo}{fp:Nat->List Nat}{E O:St}(h2:Ok T ⟨w',A',E,mo,fp,c.a,M ++X0⟩) (hs:Stp T c ⟨w',A',E,mo,fp,c.a,M ++X0⟩) (V:X0=c.X) {d:Option Nat}{rs:List Arg}(hp:plR rs=true) (B:jNR T n E d rs=some O) {v:Value}{G:Nat->Mo}{Y:Nat->List Nat}(hv:TV w' A' G Y (jKe RK rs) v) (hR:(M=[]/\(d=none\/jKw rs=false))\/(jKw rs=true/\jJM w' A' ⟨2,jK5 rs⟩ (G RK) M)) {K:Act->World->Prop}(P:Nx T n c O K):K (act.put d v) w':=by
 have Z:∀z,.pl z ∈ rs->jKg z=true:=fun z hz=>by have:=List.all_eq_true.1 hp _ hz;exact this
 have hdr:Ok T ⟨w',A',E,mo,fp,c.a,X0⟩/\Stp T c ⟨w',A',E,mo,fp,c.a,X0⟩:=by
  have hn:=h2.sx.nd;simp only[List.nodup_append]at hn;obtain⟨e1,e2⟩:=h2.world (w':=w') (A':=A') (X':=X0) (fun k _ _=>rfl) (Below.refl _ _) (fun k hk=>hk) (fun k hk=>⟨.inl hk,h2.al k hk⟩) hn.2.1 (fun g hg=>⟨.inl (List.mem_append_right _ hg),h2.sx.lt g (List.mem_append_right _ hg),h2.sx.na g (List.mem_append_right _ hg)⟩);exact⟨e1,hs.trans e2⟩
 unfold jNR at B
 cases d with
 |none=>
  cases B;exact P _ act hdr.1 hdr.2 rfl V (J.same rfl)
 |some d=>
  simp only at B
  split at B
  .rename_i hdn
   split at B
   .rename_i ho
    split at B
    .rename_i hd
     obtain⟨h3,h1⟩:=jM7 hd;cases B
     rcases hR with⟨_,h|h⟩|⟨_,h4⟩
     .cases h
     .rw[ho]at h;cases h
     .have hn:=h2.sx.nd
      simp only[List.nodup_append]at hn;obtain⟨e1,e2⟩:=h2.lay (w':=w') (A':=A') (X':=X0) (r:=d) (R':=⟨2,jK5 rs⟩) (m':=G RK) (F':=M) h1 h3 rfl (fun k _ _ _=>rfl) (Below.refl _ _) (fun k hk=>hk) (fun k hk=>⟨.inl hk,h2.al k hk⟩) h4 hn.1 (fun _ g hg=>h2.sx.na g (List.mem_append_left _ hg)) (fun g hg=>.inr (.inl (List.mem_append_left _ hg))) hn.2.1 (fun g hg=>h2.sx.na g (List.mem_append_right _ hg)) (fun g hg=>⟨.inr (.inl (List.mem_append_right _ hg)),fun h=>hn.2.2 g h g hg rfl,h2.sx.lt g (List.mem_append_right _ hg)⟩);obtain⟨p1,p2⟩:=e1.put (d:=d) (x:=jKe d rs) (v:=v) (jR1 (fun _ _ _=>by show upd mo d (G RK) d=_;rw[jqp]) Z hv);exact P _ _ p1 ((hs.trans e2).trans p2) rfl V (J.put hdn rfl)
    .cases B
   .rename_i ho
    cases B;obtain⟨p1,p2⟩:=hdr.1.put (d:=d) (x:=jKe d rs) (v:=v) (jR1 (fun l one h=>absurd (jP8 rs h) ho) Z hv);exact P _ _ p1 (hdr.2.trans p2) rfl V (J.put hdn rfl)
  .cases B
end
section
variable {T:Tb}{c c' c'':Cf}{n:Nat}{act:Act}
theorem jUh {st:St}{ow:List C × Bool}{q:Operand × Nat × TypeId}{l:List C}(h:jKU T st ow q=some (.bp l)):q.2.1=3/\∃p,evo T st q.1= .pa p/\inM (lkr T st.rt) p=true/\gP (lkr T st.rt) p (bxz T q.2.2)=some l:=by
 unfold jKU at h
 split at h
 .split at h <;> cases h
 .cases h
 .split at h
  .split at h <;> cases h
  .split at h <;> cases h
  .cases h
  .cases h
  .cases h
 .rename_i hm
  refine⟨hm,?_⟩
  split at h
  .rename_i p hp
   split at h
   .rename_i hin
    split at h
    .rename_i l' hg
     cases h;exact⟨p,hp,hin,hg⟩
    .cases h
   .cases h
  .cases h
 .split at h
  .split at h
   .split at h <;> cases h
   .cases h
  .cases h
 .split at h
  .cases h
  .split at h
   .split at h <;> cases h
   .cases h
  .cases h
 .cases h
theorem jZU {st:St}{ow:List C × Bool}{q:Operand × Nat × TypeId}{x:Arg}(h:jKU T st ow q=some x) (B:q.2.1=3):∃l,x= .bp l:=by
 unfold jKU at h;rw[B]at h;simp only at h
 split at h
 .split at h
  .split at h
   .cases h;exact⟨_,rfl⟩
   .cases h
  .cases h
 .cases h
theorem jl1 (hc:Ok T c) (M:Ar n c act) {o:Oper}{f:FuncId}{xs:Array Operand}{h8:Array TypeId}(z7:o.op= .call ⟨.value (.func f),xs,h8⟩) {as:List Arg}{st1:St}{bp:Option Pth}(O:jMu T c.st (jLC xs.toList (T.md f) h8.toList)=some (as,st1,bp)) {rs:List Arg}{bs:List (List C)}(hD:Does T f as rs bs) {x8:St}(h2:jMv T n o.dst st1 bp rs bs=some x8) {K:Act->World->Prop}{Q:Exit->Act->World->Prop}(hK:Nx T n c x8 K):o.wp T.P act c.w K Q:=by
 have x6:=jSa act.eval xs.toList (T.md f) h8.toList;generalize jLC xs.toList (T.md f) h8.toList=qs at O x6;unfold jMu at O
 split at O
 .rename_i l one st1' ht
  split at O
  .rename_i as' has
   split at O
   .rename_i bp' hbp
    split at O
    .rename_i hch
     unfold apO at hch;rw[Bool.and_eq_true,Bool.and_eq_true,Bool.and_eq_true]at hch;obtain⟨⟨hq,y7⟩,x0,y1⟩:=hch;have hq:=Nat.le_of_ble_eq_true hq;cases O;obtain⟨B,J,Y,o1,o2,o3⟩:=jRD hc M.at' ht
     have hO:∀(i:Nat) (q:Operand × Nat × TypeId),qs[i]? =some q->q.2.1=1->(∀(j:Nat) (q':Operand × Nat × TypeId),qs[j]? =some q'->q'.2.1=1->j=i)/\RL c.w c.A l (act.eval q.1).cells.toList Y/\(one=true->(act.eval q.1).cells=#[act.eval q.1])/\(one=false->∃arr,act.eval q.1= .agg arr):=fun i q hi hm=>by
      rcases o3 with⟨h,_⟩|⟨i',q',e1,e2,e3,e4,e5,e6⟩
      .exact absurd hm (h q (List.mem_of_getElem? hi))
      .have:=e3 i q hi hm
       subst this;rw[hi]at e1;cases e1;exact⟨e3,e4,e5,e6⟩
     obtain⟨H4,y4⟩:=jQ0 has;unfold jMv at h2
     split at h2
     .rename_i hpl
      split at h2
      .rename_i st2 hb
       have fin:∀(G:Cf),Ok T G->G.w=c.w->G.A=c.A->G.st=entry as->G.X=[]->(∀t,as.length<=t->G.a t=undef)->(List.range as.length).map G.a=qs.map (fun q=>act.eval q.1)->(∀(cd:Cf) (FR:List Nat),Ok T cd->Stp T G cd->cd.st=jKl as rs bs->(FR=[]\/∃R,lkr T cd.st.rt RK=some R/\own R=true/\FR=cd.fp RK)->∃h5 h3,Ok T ⟨cd.w,cd.A,st2,h5,h3,c.a,FR ++c.X⟩/\Stp T c ⟨cd.w,cd.A,st2,h5,h3,c.a,FR ++c.X⟩)->o.wp T.P act c.w K Q:=by
        intro G k1 k2 k3 k4 k5 k6 k7 r7;unfold Oper.wp;rw[jYU z7,jgN hD.1];have r8:=hD.2 G k1 k4 k5 k6;have x9:((List.range as.length).map G.a).toArray=#[] ++xs.map act.eval ++#[]:=by rw[k7,x6];apply Array.ext';simp
        rw[x9,k2]at r8;refine r8.mono fun e w' he=>?_;obtain⟨cd,v,rfl,rfl,d1,d2,d3,d4,d5⟩:=he
        have y0:jKw rs=true->lkr T cd.st.rt RK=some ⟨2,jK5 rs⟩:=fun h=>by
         rw[d3];show lkr T (bpR 0 as bs ++_) RK=_;rw[jSW as bs 0 RK _ (by unfold RK;omega),h];simp[lkr]
        have H0:TV cd.w cd.A cd.mo cd.fp (jKe RK rs) v:=by
         have:=d1.sx.sr.tms RK;rw[d5,d3]at this;simpa[jKl,lkt] using this
        by_cases h6:jKw rs=true
        .obtain⟨h5,h3,b1,b2⟩:=r7 cd (cd.fp RK) d1 d2 d3 (.inr ⟨_,y0 h6,rfl,rfl⟩)
         exact jID hc M b1 b2 rfl hpl h2 H0 (.inr ⟨h6,d1.sx.sr.rts RK _ (y0 h6)⟩) hK
        .obtain⟨h5,h3,b1,b2⟩:=r7 cd [] d1 d2 d3 (.inl rfl)
         exact jID hc M b1 b2 rfl hpl h2 H0 (.inl ⟨rfl,.inr (by simpa using h6)⟩) hK
       have H8:=jT9 hbp
       obtain⟨m0⟩:Nonempty Mo:=⟨⟨0,0,[],#[],0,(0,0)⟩⟩
       rcases H8 with⟨rfl,K1⟩|⟨p,rfl,⟨R,hR,r6⟩,ib,qb,q9,z6,y5,v7⟩
       .obtain⟨G,k1,k2,k3,k4,k5,k6,k7,k8,k9⟩:=jmd (c:=⟨c.w,c.A,st1,B,J,c.a,Y ++c.X⟩) o1 (Fow:=Y) (X0:=c.X) rfl M.at' hq has y7 hO (mB:=m0) (FB:=[]) (rB:=0) (fun i q x hi hm=>absurd hm (K1 q (List.mem_of_getElem? hi))) List.nodup_nil (fun g hg=>by cases hg) (fun h=>absurd rfl h) (fun h=>absurd rfl h) (fun q hq hm r o k ha=>by cases (JeD y1 hq hm ha).1)
        have x2:st2=st1/\bs=[]:=by
         cases bs with
         |nil=>cases hb;exact⟨rfl,rfl⟩
         |cons _ _=>cases hb
        obtain⟨rfl,rfl⟩:=x2;refine fin G k1 k2 k3 k4 k5 k6 k7 fun cd FR d1 d2 d3 hFR=>?_;obtain⟨r1,r2⟩:=jZS (c:=⟨c.w,c.A,st2,B,J,c.a,Y ++c.X⟩) o1 (Fow:=Y) (X0:=c.X) rfl k1 k2 k3 (fun g hg=>by rcases k8 g hg with h|h;exact h;cases h) d1 d2 hFR;exact⟨_,_,r1,o2.trans r2⟩
       .have x2:∃b,bs=[b]/\V.setP T st1 p b=some st2:=by
         cases bs with
         |nil=>cases hb
         |cons b bs=>
          cases bs with
          |nil=>exact⟨b,rfl,hb⟩
          |cons _ _=>cases hb
        obtain⟨b,rfl,h7⟩:=x2;have x5:ib<as.length:=by rw[H4];exact(List.getElem?_eq_some_iff.1 q9).1
        obtain⟨q',z8,x1⟩:=y4 ib _ (List.getElem?_eq_getElem x5);rw[q9]at z8;cases z8;obtain⟨lb,y8⟩:=jZU x1 z6;have r3:as[ib]? =some (.bp lb):=by rw[List.getElem?_eq_getElem x5,y8]
        rw[y8]at x1;obtain⟨_,p',x3,v1,h4⟩:=jUh x1;rw[y5]at x3;cases x3
        have K2:p.r<1000000:=by
         unfold V.setP at h7
         split at h7
         .rename_i h;rw[Bool.and_eq_true]at h;exact Nat.le_of_ble_eq_true h.1
         .cases h7
        have r9:R.kd≠9/\gL p.p R.cs p.o (bxz T qb.2.2)=some lb:=by
         unfold gP at h4;rw[hR]at h4;simp only at h4
         split at h4
         .cases h4
         .rename_i h9;exact⟨h9,h4⟩
        have r4:p.p=[]->isV R=false:=fun h=>by
         unfold inM at v1;rw[h]at v1;simp only[hR]at v1;simpa using v1
        obtain⟨Z,a1,E,v8,r5,F1,Fs,F2,s1,s2,s3,s4,s5,s6,s7,s8,s9,K4⟩:=(o1.sx.sr.rts p.r R hR).lens (o1.sx.sr.nd p.r R hR) r4 r9.1 r9.2;have s7:J p.r=F1 ++Fs ++F2:=s7;have x4:(F1 ++Fs ++F2).Nodup:=by have:=o1.sx.sr.nd p.r R hR;rw[<-s7];exact this
        have y6:∀g ∈ Z ::Fs,g ∈ J p.r:=fun g hg=>by
         rw[s7];rcases List.mem_cons.1 hg with rfl|h
         .simp[s8]
         .simp[h]
        have H7:(Z ::Fs).Nodup:=by
         rw[List.append_assoc,List.nodup_append,List.nodup_append]at x4;refine List.nodup_cons.2 ⟨fun h=>x4.2.2 Z s8 Z (by simp[h]) rfl,x4.2.1.1⟩
        have H6:AD (Zm qs ⟨Z,a1,(E.toList.drop a1).take (bxz T qb.2.2),E,v8,r5⟩) c.w c.A (.bp lb) (act.eval qb.1) ⟨Z,a1,(E.toList.drop a1).take (bxz T qb.2.2),E,v8,r5⟩ (Z ::Fs):=by
         have hx:=o1.op (act:=act) M.at' qb.1;rw[show evo T (Cf.st ⟨c.w,c.A,st1,B,J,c.a,Y ++c.X⟩) qb.1= .pa p from y5]at hx;obtain⟨g',o',e1,e2⟩:=hx;have e:=e1 c.w (jJQ _ _);have s1:ad c.w (B p.r) p.o p.p=some (Z,a1):=s1;rw[show ad c.w (B p.r) p.o p.p=some (g',o')from e]at s1;cases s1;refine⟨Fs,rfl,⟨s2,fun _=>s3 r6,by rw[s5];exact s4,by rw[s5];exact s6⟩,by rw[s5],e2⟩
        obtain⟨G,k1,k2,k3,k4,k5,k6,k7,k8,k9⟩:=jmd (c:=⟨c.w,c.A,st1,B,J,c.a,Y ++c.X⟩) o1 (Fow:=Y) (X0:=c.X) rfl M.at' hq has y7 hO (mB:=⟨Z,a1,(E.toList.drop a1).take (bxz T qb.2.2),E,v8,r5⟩) (FB:=Z ::Fs) (rB:=p.r) (fun i q x hi hm hx=>by
         have:=v7 i q hi hm;subst this;rw[q9]at hi;cases hi;rw[r3]at hx;cases hx
         exact⟨H6,v7⟩) H7 (fun g hg=>⟨o1.sx.sr.fa p.r R hR r6 g (y6 g hg),y6 g hg⟩) (fun _=>⟨R,hR,r6⟩) (fun _ q hq hm r hr e=>by
         have x0:jUi T st1 p.r qs=true:=x0;have:=List.all_eq_true.1 x0 q hq;have hr:jMW (evo T st1 q.1)=some r:=hr;rw[hr,e]at this
         rcases hm with hm|hm|⟨hm,ha⟩
         .simp[hm]at this
         .simp[hm]at this
         .simp[hm,ha]at this) (fun q hq hm r o k ha mo fp hz=>by
         obtain⟨ep,q0,x7,y9,ho⟩:=JeD y1 hq hm ha;have ep:p=⟨r,0,[]⟩:=Option.some.inj ep;have e0:=v7 0 q0 x7 y9;subst e0;have H5:q0=qb:=Option.some.inj (x7.symm.trans q9);subst H5;have hz:=hz ⟨q0,x7,y9⟩;have hx:=o1.op (act:=act) M.at' q.1
         have H2:evo T st1 q.1= .pa ⟨r,o,[k]⟩:=by
          generalize evo T st1 q.1=x at ha;unfold alA at ha
          split at ha
          .cases ha;rfl
          .cases ha
         rw[show evo T (Cf.st ⟨c.w,c.A,st1,B,J,c.a,Y ++c.X⟩) q.1=_ from H2]at hx;obtain⟨g',a',f1,f2⟩:=hx;have f0:ad c.w (B r) o [k]=some (g',a'):=f1 c.w (jJQ _ _);subst ep;have s1:some ((B r).k,(B r).o+0)=some (Z,a1):=s1;cases s1;have v6:=o1.sx.sr.rts r R hR;unfold jJM at v6;rw[if_neg r9.1,r4 rfl]at v6;simp only[Bool.false_eq_true,if_false]at v6;obtain⟨F',arr,_,y2,y3,_⟩:=v6;have s2:c.w.heap[(B r).k]? =some (.cells E v8 r5):=s2;have y2:c.w.heap[(B r).k]? =some (.cells arr (B r).ty (B r).fz):=y2.blk;rw[s2]at y2;cases y2;have y3:(B r).vs=(E.toList.drop (B r).o).take R.cs.length:=y3;refine⟨g',a',fun w' _=>?_,f2⟩;rw[<-f0];refine Jh6 ?_;show(mo 0).vs[o]? =_;rw[hz];show((E.toList.drop ((B r).o+0)).take (bxz T q0.2.2))[o]? =_
         have K0:o<R.cs.length:=by
          rcases Nat.lt_or_ge o R.cs.length with h|h
          .exact h
          .obtain⟨z,j,q'⟩:=k
           simp only[ad]at f0;rw[List.getElem?_eq_none (by rw[y3,List.length_take];omega)]at f0;cases f0
         rw[y3,List.getElem?_take,List.getElem?_take,if_pos ho,if_pos K0,Nat.add_zero])
        refine fin G k1 k2 k3 k4 k5 k6 k7 fun cd FR d1 d2 d3 hFR=>?_
        have hu:∀k l',as[k]? =some (.bp l')->k=ib:=fun k l' hk=>by
         obtain⟨q',K3,H1⟩:=y4 k _ hk;exact v7 k q' K3 (jUh H1).1
        have H9:lkr T G.st.rt ib=some ⟨0,lb⟩:=by
         rw[k4];show lkr T (jKb 0 as) ib=_;rw[jN7 T as 0 ib (by omega),if_pos (by omega),Nat.sub_zero,r3];rfl
        have H3:lkr T cd.st.rt ib=some ⟨0,b⟩:=by
         rw[d3];show lkr T (bpR 0 as [b] ++_) ib=_;rw[jT6 as 0 ib lb b r3 hu];simp[lkr]
        obtain⟨z1,z2⟩:=k9 ib qb q9 z6;obtain⟨h5,h3,r1,r2⟩:=jZR (c:=⟨c.w,c.A,st1,B,J,c.a,Y ++c.X⟩) o1 (Fow:=Y) (X0:=c.X) rfl k1 k2 k3 hR r6 r9.1 r4 K2 s2 s7 s8 K4 k8 z1 H9 s5 H3 (by unfold RK;omega) d1 d2 hFR h7;exact⟨h5,h3,r1,o2.trans r2⟩
      .cases h2
     .cases h2
    .cases O
   .cases O
  .cases O
 .cases O
end
def Ends (T:Tb) (n:Nat) (c:Cf) (Q:Exit->St->Prop):Exit->Act->World->Prop:=fun e act' w'=>∃c',Ok T c'/\Stp T c c'/\c'.w=w'/\c'.X=[]/\Ar n c' act'/\Q e c'.st
def Vw (T:Tb) (n:Nat) (code:Code) (Q:Exit->St->Prop) (st:St):Prop:=∀c act,Ok T c->Ar n c act->c.st=st->c.X=[]->code.wp T.P (Ends T n c Q) act c.w
def Wk (T:Tb) (st st':St):Prop:=∀c,Ok T c->c.st=st->c.X=[]->∃c',Ok T c'/\Stp T c c'/\c'.st=st'/\c'.w=c.w/\c'.a=c.a/\c'.X=[]
def Thn (K:St->Prop) (Q:Exit->St->Prop):Exit->St->Prop
 | .normal,st=>K st
 |e,st=>Q e st
def InB (id:Nat) (Q:Exit->St->Prop):Exit->St->Prop
 | .exit id',st=>if id'=id then Q .normal st else Q (.exit id') st
 |e,st=>Q e st
section
variable {T:Tb}{n:Nat}{c c':Cf}{Q Q':Exit->St->Prop}{st st':St}{K:St->Prop}
theorem Ends.step (h:Stp T c c') {e:Exit}{a:Act}{w:World}(B:Ends T n c' Q e a w):Ends T n c Q e a w:=by
 obtain⟨E,G,h2,J,M,O,P⟩:=B;exact⟨E,G,h.trans h2,J,M,O,P⟩
theorem Vw.mono {x:Code}(h:Vw T n x Q st) (B:∀e st,Q e st->Q' e st):Vw T n x Q' st:=fun c act h1 h2 h3 h4=>wp_mono (h c act h1 h2 h3 h4) fun e a w ⟨c',k1,k2,k3,k4,k5,k6⟩=>⟨c',k1,k2,k3,k4,k5,B _ _ k6⟩
theorem Wk.refl (st:St):Wk T st st:=fun c h1 h2 h3=>⟨c,h1,Stp.refl c,h2,rfl,rfl,h3⟩
theorem Wk.trans {B:St}(h:Wk T st st') (E:Wk T st' B):Wk T st B:=fun c h1 h2 h3=>by
 obtain⟨M,G,a2,a3,a4,a5,J⟩:=h c h1 h2 h3;obtain⟨O,b1,b2,b3,b4,b5,b6⟩:=E M G a3 J;exact⟨O,b1,a2.trans b2,b3,b4.trans a4,b5.trans a5,b6⟩
theorem Vw.wk {x:Code}(B:Wk T st st') (h:Vw T n x Q st'):Vw T n x Q st:=fun c act h1 h2 h3 h4=>by
 obtain⟨c',E,G,J,M,O,P⟩:=B c h1 h3 h4;have:=h c' act E (h2.same O) J P;rw[M]at this;exact wp_mono this fun e a w q=>q.step G
theorem here (B:Ok T c) {act:Act}(h2:Ar n c act) (E:c.st=st) (G:c.X=[]) {e:Exit}(h:Q e st):Ends T n c Q e act c.w:=⟨c,B,Stp.refl c,rfl,G,h2,by rw[E];exact h⟩
theorem Vw.skip (h:Q .normal st):Vw T n .skip Q st:=fun c act h1 h2 h3 h4=>wp_skip (here h1 h2 h3 h4 h)
theorem Vw.exit {B:Nat}(h:Q (.exit B) st):Vw T n (.exit B) Q st:=fun c act h1 h2 h3 h4=>wp_exit (here h1 h2 h3 h4 h)
theorem Vw.ret (h:Q .ret st):Vw T n .ret Q st:=fun c act h1 h2 h3 h4=>wp_ret (here h1 h2 h3 h4 h)
theorem Vw.label {l:Nat}(h:Q .normal st):Vw T n (.label l) Q st:=fun c act h1 h2 h3 h4=>wp_label (here h1 h2 h3 h4 h)
theorem Vw.seq {x y:Code}(h:Vw T n x (Thn (Vw T n y Q) Q) st):Vw T n (.seq x y) Q st:=fun c act h1 h2 h3 h4=>wp_seq <|wp_mono (h c act h1 h2 h3 h4) fun e a w ⟨c',k1,k2,k3,k4,k5,k6⟩=>by
 have stay:∀{e:Exit},Q e c'.st->Ends T n c Q e a w:=fun h=>⟨c',k1,k2,k3,k4,k5,h⟩
 cases e with
 |normal=>
  have:=k6 c' a k1 k5 rfl k4;rw[k3]at this;exact wp_mono this fun e a w q=>q.step k2
 |_=>exact stay k6
theorem Vw.cond {x y:Code}{o:Operand}{t:Bool}(B:evo T st o= .c (.b t)) (h:Vw T n (if t then x else y) Q st):Vw T n (.cond o x y) Q st:=fun c act h1 h2 h3 h4=>by
 refine wp_cond (t:=t) ?_ (h c act h1 h2 h3 h4);have:=h1.op h2.at' o;rw[h3,B]at this;have this:RC c.w c.A (.b t) (act.eval o) []:=this;generalize act.eval o=v at this ⊢;cases this;rfl
theorem Vw.block {x:Code}{B:Nat}(h:Vw T n x (InB B Q) st):Vw T n (.block B x) Q st:=fun c act h1 h2 h3 h4=>wp_block <|wp_mono (h c act h1 h2 h3 h4) fun e a w ⟨c',k1,k2,k3,k4,k5,k6⟩=>by
 have stay:∀{e:Exit},Q e c'.st->Ends T n c Q e a w:=fun h=>⟨c',k1,k2,k3,k4,k5,h⟩
 cases e with
 |exit id'=>
  simp only[Exit.inBlock,InB]at k6 ⊢
  split
  .rename_i e;rw[if_pos e]at k6;exact stay k6
  .rename_i e;rw[if_neg e]at k6;exact stay k6
 |_=>exact stay k6
theorem Vw.loop {x:Code}(I:Nat->St->Prop) (B:Nat) (E:I B st) (round:∀k st,I k st->Vw T n x (Thn (fun st'=>∃k',k'<k/\I k' st') Q) st):Vw T n (.loop x) Q st:=fun c act h1 h2 h3 h4=>by
 refine wp_loop_ghost (fun k a w=>∃c',Ok T c'/\Stp T c c'/\c'.w=w/\c'.X=[]/\Ar n c' a/\I k c'.st) B ⟨c,h1,Stp.refl c,rfl,h4,h2,by rw[h3];exact E⟩ fun k a w ⟨c1,k1,k2,k3,k4,k5,k6⟩=>?_;have:=round k c1.st k6 c1 a k1 k5 rfl k4;rw[k3]at this;refine wp_mono this fun e a w ⟨c',j1,j2,j3,j4,j5,j6⟩=>?_
 have stay:∀{e:Exit},Q e c'.st->Ends T n c Q e a w:=fun h=>⟨c',j1,k2.trans j2,j3,j4,j5,h⟩
 cases e with
 |normal=>
  obtain⟨k',hk,G⟩:=j6;exact⟨k',hk,c',j1,k2.trans j2,j3,j4,j5,G⟩
 |_=>exact stay j6
end
inductive VOp (T:Tb) (n:Nat) (fz:List Nat) (o:Oper) (K:St->Prop) (st:St):Prop where
 |st (st':St) (h:jKG T n fz st o=some st') (hK:K st')
 |fn {f:Nat}{xs:Array Operand}{ats:Array TypeId}(ho:o.op= .call ⟨.value (.func f),xs,ats⟩) {as:List Arg}{st1:St}{bp:Option Pth}(h1:jMu T st (jLC xs.toList (T.md f) ats.toList)=some (as,st1,bp)) {rs:List Arg}{bs:List (List C)}(hD:Does T f as rs bs) {st3:St}(h2:jMv T n o.dst st1 bp rs bs=some st3) (hK:K st3)
def jKz (T:Tb) (st:St) (ops:Array Oper) (o:Oper):Option Bool:=match o.guard with
 |none=>some true
 |some (j,want)=>match (ops[j]?).bind (·.dst) with
  |some t=>match lkt st.tm t with
   | .c (.b x)=>some (x == want)
   | .tp []=>some false
   |_=>none
  |none=>some false
def jLV (n:Nat) (o:Oper) (st:St):Option St:=match o.dst with
 |none=>some st
 |some d=>if d<n then some ⟨upT st.tm d (.tp []),st.rt⟩ else none
def jKq (T:Tb) (n:Nat) (fz:List Nat) (ops:Array Oper) (K:St->Prop):List Oper->St->Prop
 |[],st=>K st
 |o ::rest,st=>(jKz T st ops o=some true/\VOp T n fz o (jKq T n fz ops K rest) st)\/(jKz T st ops o=some false/\∃st',jLV n o st=some st'/\jKq T n fz ops K rest st')
section
variable {T:Tb}{n:Nat}{c c':Cf}{Q Q':Exit->St->Prop}{st st':St}{K:St->Prop}{fz:List Nat}{ops:Array Oper}
theorem jKq.go {o:Oper}{rest:List Oper}(h:jKz T st ops o=some true) (B:VOp T n fz o (jKq T n fz ops K rest) st):jKq T n fz ops K (o ::rest) st:=.inl ⟨h,B⟩
theorem jKq.skip {o:Oper}{rest:List Oper}(h:jKz T st ops o=some false) (B:jLV n o st=some st') (h2:jKq T n fz ops K rest st'):jKq T n fz ops K (o ::rest) st:=.inr ⟨h,st',B,h2⟩
theorem VOp.ok (J:Ok T c) {act:Act}(B:Ar n c act) (G:c.X=[]) {o:Oper}(h:VOp T n fz o K c.st) {K':Act->World->Prop}{Q':Exit->Act->World->Prop}(E:∀c' act',Ok T c'->Stp T c c'->c'.X=[]->Ar n c' act'->K c'.st->K' act' c'.w):o.wp T.P act c.w K' Q':=by
 cases h with
 |st st' h hk=>exact step_ok J B h fun c' act' h1 h2 h3 h4 h5=>E c' act' h1 h2 (h4.trans G) h5 (by rw[h3];exact hk)
 |fn ho h1 hD h2 hk=>exact jl1 J B ho h1 hD h2 fun c' act' h1 h2 h3 h4 h5=>E c' act' h1 h2 (h4.trans G) h5 (by rw[h3];exact hk)
theorem joN (E:Ok T c) {act:Act}(B:Ar n c act) {o:Oper}{b:Bool}(h:jKz T c.st ops o=some b):Region.wanted o (yielded ops act.tmps)=b:=by
 unfold jKz at h;unfold Region.wanted
 split at h
 .rename_i hg;rw[hg];cases h;rfl
 .rename_i j want hg
  rw[hg];simp only;unfold yielded
  split at h
  .rename_i t ht
   rw[ht]
   split at h
   .rename_i x hx
    cases h;have h0:=E.sx.sr.tms t;rw[hx,<-B.at' t]at h0;have h0:RC c.w c.A (.b x) (act.tmps.getD t undef) []:=h0;rw[Array.getD_eq_getD_getElem?]at h0;simp only[Option.bind_some]
    cases hv :act.tmps[t]? with
    |none=>rw[hv]at h0;cases h0
    |some v=>
     rw[hv]at h0;simp only[Option.getD_some]at h0;cases h0;simp
   .rename_i hx
    cases h;have h0:=E.sx.sr.tms t;rw[hx,<-B.at' t]at h0;obtain⟨arr,h0,_⟩:∃arr:Array Value,act.tmps.getD t undef= .tuple arr/\_:=h0;rw[Array.getD_eq_getD_getElem?]at h0;simp only[Option.bind_some]
    cases hv :act.tmps[t]? with
    |none=>rfl
    |some v=>
     rw[hv]at h0;simp only[Option.getD_some]at h0;subst h0;rfl
   .cases h
  .rename_i ht
   rw[ht];cases h;rfl
theorem jRM (G:Ok T c) {act:Act}(B:Ar n c act) (E:c.X=[]) {o:Oper}(h:jLV n o c.st=some st'):∃c',Ok T c'/\Stp T c c'/\c'.X=[]/\c'.w=c.w/\Ar n c' (act.put o.dst undef)/\c'.st=st':=by
 unfold jLV at h
 split at h
 .rename_i hd
  cases h;rw[hd];exact⟨c,G,Stp.refl c,E,rfl,B,rfl⟩
 .rename_i d hd
  split at h
  .rename_i hdn
   cases h;rw[hd];obtain⟨J,M⟩:=G.put (d:=d) (x:=.tp []) (v:=undef) ⟨#[],rfl,rfl,fun j x u hj=>by simp at hj⟩;exact⟨_,J,M,E,rfl,B.put hdn rfl,rfl⟩
  .cases h
theorem jKq.ok {Q:Exit->Act->World->Prop}:∀{l:List Oper}{c:Cf}{act:Act},Ok T c->Ar n c act->c.X=[]->jKq T n fz ops K l c.st->(∀c' act',Ok T c'->Stp T c c'->c'.X=[]->Ar n c' act'->K c'.st->Q .normal act' c'.w)->wpList T.P ops Q l act c.w
 |[],c,act,hc,har,hX,h,hK=>hK c act hc (Stp.refl c) hX har h
 |o ::rest,c,act,hc,har,hX,h,hK=>by
  unfold wpList
  rcases h with⟨B,h⟩|⟨B,st',hs,h⟩
  .rw[if_pos (joN hc har B)]
   exact .inl (VOp.ok hc har hX h fun c' act' E G J M O=>jKq.ok E M J O fun c2 act2 j1 j2 j3 j4 j5=>hK c2 act2 j1 (G.trans j2) j3 j4 j5)
  .rw[if_neg (by rw[joN hc har B];exact Bool.false_ne_true)]
   obtain⟨c',E,G,J,M,O,V⟩:=jRM hc har hX hs;have:=jKq.ok (Q:=Q) E O J (by rw[V];exact h) fun c2 act2 j1 j2 j3 j4 j5=>hK c2 act2 j1 (G.trans j2) j3 j4 j5;rw[M]at this;exact this
theorem Vw.region {B:Nat}{l:List Oper}(h:jKq T n fz l.toArray (Q .normal) l st):Vw T n (.region B l.toArray false) Q st:=fun c act h1 h2 h3 h4=>by
 refine wp_region_lit (jKq.ok h1 h2 h4 (by rw[h3];exact h) fun c' act' k1 k2 k3 k4 k5=>⟨c',k1,k2,rfl,k3,k4,k5⟩)
end
inductive jK2 (T:Tb):List Nat->St->List Arg->St->Prop where
 |nil {st:St}:jK2 T [] st [] st
 |pl {t:Nat}{ts:List Nat}{st st':St}{rs:List Arg}{x:Av}(h:lkt st.tm t=x) (hp:jKg x=true) (h':jK2 T ts st rs st'):jK2 T (t ::ts) st (.pl x ::rs) st'
 |ow {t:Nat}{ts:List Nat}{st st1 st':St}{rs:List Arg}{l:List C}{one:Bool}(h:takeV T st (lkt st.tm t)=some (l,st1)) (ho:jLr (lkt st.tm t)=one) (h':jK2 T ts st1 rs st'):jK2 T (t ::ts) st (.ow l one ::rs) st'
def jMS (T:Tb) (st:St):List (Nat × Rt)->Prop
 |[]=>True
 |(k,R) ::l=>lkr T st.rt k=some R/\jMS T st l
def kd0 (st:St) (l:List (Nat × Rt)):Bool:=st.rt.all fun q=>!(q.2.kd == 0) || l.any fun q'=>q'.1 == q.1
section
variable {T:Tb}{c c' c'':Cf}{n:Nat}
theorem jWy {w:World}{A:Nat->Prop}{mo mo':Nat->Mo}{fp fp':Nat->List Nat}{x:Av}{v:Value}(h:jKg x=true) (hx:TV w A mo fp x v):TV0 w A mo' fp' x v:=by
 cases x <;> first|exact hx|cases h
theorem jK2.ok:∀{ts:List Nat}{st st':St}{rs:List Arg},jK2 T ts st rs st'->∀{c:Cf},c.st=st->Ok T c->∃mo' fp' F us,Ok T ⟨c.w,c.A,st',mo',fp',c.a,F ++c.X⟩/\Stp T c ⟨c.w,c.A,st',mo',fp',c.a,F ++c.X⟩/\RL c.w c.A (jK5 rs) us F/\(jKw rs=false->F=[])/\plR rs=true/\rs.length=ts.length/\∀(pre post:List Value) (m:Nat->Mo) (f:Nat->List Nat) (k:Nat),(m k).vs=pre ++us ++post->∀(j:Nat) (x:Av) (t:Nat),(Jr k pre.length rs)[j]? =some x->ts[j]? =some t->TV0 c.w c.A m f x (c.a t)
 |[],st,st',rs,h,c,hst,hc=>by
  cases h;subst hst;exact⟨c.mo,c.fp,[],[],hc,Stp.refl c,.nil,fun _=>rfl,rfl,rfl,fun pre post m f k _ j x t hx=>by simp[Jr]at hx⟩
 |t ::ts,st,st',rs,h,c,hst,hc=>by
  subst hst
  cases h with
  |@pl _ _ _ _ rs x h1 h2 h3=>
   obtain⟨mo',fp',F,us,G,O,P,k4,V,Y,Z⟩:=jK2.ok h3 rfl hc;refine⟨mo',fp',F,us,G,O,P,k4,by simp only[plR,List.all_cons,h2,Bool.true_and];exact V,by simp[Y],fun pre post m f k hm j y u hy hu=>?_⟩
   cases j with
   |zero=>
    simp only[Jr,List.getElem?_cons_zero,Option.some.injEq]at hy hu;subst hy;subst hu;have:=hc.sx.sr.tms t;rw[h1]at this;exact jWy h2 this
   |succ j=>exact Z pre post m f k hm j y u (by simpa[Jr] using hy) (by simpa using hu)
  |@ow _ _ _ st1 _ rs l one h1 h2 h3=>
   have hx:=hc.sx.sr.tms t;obtain⟨h6,h4,Fs,a1,a2,a3,a4⟩:=hc.takeV hx h1
   have M:one=false->∃arr,c.a t= .agg arr:=fun h=>by
    rw[h]at h2
    cases hv :lkt c.st.tm t with
    |ag l=>rw[hv]at hx;obtain⟨arr,e,_⟩:=hx;exact⟨arr,e⟩
    |la p n=>rw[hv]at hx;obtain⟨arr,e,_⟩:=hx;exact⟨arr,e⟩
    |_=>rw[hv]at h2;cases h2
   obtain⟨mo',fp',F,us,G,O,P,k4,V,Y,Z⟩:=jK2.ok h3 (c:=⟨c.w,c.A,st1,h6,h4,c.a,Fs ++c.X⟩) rfl a1;have J:=G.sx.nd;simp only[List.nodup_append]at J;obtain⟨n1,⟨n2,n3,n4⟩,n5⟩:=J
   have hN:((Fs ++F) ++c.X).Nodup:=by
    rw[List.nodup_append,List.nodup_append];refine⟨⟨n2,n1,fun a ha b hb e=>n5 b hb a (by simp[ha]) e.symm⟩,n3,fun a ha b hb e=>?_⟩;rcases List.mem_append.1 ha with h|h
    .exact n4 a h b hb e
    .exact n5 a h b (by simp[hb]) e
   obtain⟨x1,x2⟩:=G.xs hN (fun g hg=>by
    simp only[List.mem_append]at hg ⊢;rcases hg with(h|h)|h
    .exact .inr (.inl h)
    .exact .inl h
    .exact .inr (.inr h))
   refine⟨mo',fp',Fs ++F,(c.a t).cells.toList ++us,x1,(a2.trans O).trans x2,a3.app P,fun h=>(by cases h),by simp only[plR,List.all_cons,Bool.true_and];exact V,by simp[Y],fun pre post m f k hm j y u hy hu=>?_⟩;have hl:(c.a t).cells.toList.length=l.length:=a3.len.symm
   cases j with
   |zero=>
    simp only[Jr,List.getElem?_cons_zero,Option.some.injEq]at hy hu;subst hy;subst hu
    have B:((m k).vs.drop pre.length).take l.length=(c.a t).cells.toList:=by
     rw[hm,List.append_assoc,List.append_assoc,List.drop_left,<-hl,List.take_left]
    have E:pre.length+l.length<=(m k).vs.length:=by rw[hm];simp only[List.length_append];omega
    unfold loc
    cases ho :one with
    |true=>
     simp only[if_true];intro w' _;have e:=a4 (by rw[h2,ho]);rw[e]at hl B;have h5:l.length=1:=by rw[<-hl];rfl
     rw[h5]at B E;simp only[vls];rw[if_pos E,B]
    |false=>
     simp only[Bool.false_eq_true,if_false];obtain⟨arr,e⟩:=M ho;rw[e]at hl B;refine⟨arr,e,by rw[<-hl];rfl,fun w' _=>?_⟩;simp only[vls];rw[if_pos E,B];rfl
   |succ j=>
    refine Z (pre ++(c.a t).cells.toList) post m f k (by rw[hm];simp[List.append_assoc]) j y u ?_ (by simpa using hu);rw[List.length_append,hl];simpa[Jr] using hy
theorem jN5:∀{l:List (Nat × Rt)}{k:Nat}{R:Rt},lkr T l k=some R->R.kd=0->(k,R) ∈ l
 |[],k,R,h,h0=>by
  simp only[lkr]at h
  split at h
  .cases h;cases h0
  .cases h
 |(j,S) ::l,k,R,h,h0=>by
  simp only[lkr]at h
  split at h
  .rename_i e;subst e;cases h;exact List.mem_cons_self ..
  .exact List.mem_cons_of_mem _ (jN5 h h0)
theorem jL1:∀{l:List (Nat × Rt)}{k:Nat}{R:Rt},lkr T l k=some R->(k,R) ∈ l\/((∀q ∈ l,q.1≠k)/\∃cs,T.gl k=some cs/\R=⟨3,cs⟩)
 |[],k,R,h=>by
  simp only[lkr]at h
  split at h
  .rename_i cs hcs;cases h;exact .inr ⟨fun q B=>(by cases B),cs,hcs,rfl⟩
  .cases h
 |(j,S) ::l,k,R,h=>by
  simp only[lkr]at h
  split at h
  .rename_i e;subst e;cases h;exact .inl (List.mem_cons_self ..)
  .rename_i e
   rcases jL1 h with h|⟨E,h2⟩
   .exact .inl (List.mem_cons_of_mem _ h)
   .exact .inr ⟨fun q B=>by rcases List.mem_cons.1 B with rfl|B;exact e;exact E q B,h2⟩
theorem jMS.at' {st:St}:∀{l:List (Nat × Rt)},jMS T st l->∀{k:Nat}{R:Rt},(k,R) ∈ l->lkr T st.rt k=some R
 |(j,S) ::l,h,k,R,hm=>by
  rcases List.mem_cons.1 hm with e|hm
  .cases e;exact h.1
  .exact jMS.at' h.2 hm
theorem jRv:∀(l:List (Nat × Rt)) (k:Nat) (R:Rt),(∀q ∈ l,q.1≠k)->upR l k R=l ++[(k,R)]
 |[],k,R,_=>rfl
 |(j,S) ::l,k,R,h=>by
  simp only[upR];rw[if_neg (h (j,S) (List.mem_cons_self ..)),jRv l k R fun q hq=>h q (List.mem_cons_of_mem _ hq)];rfl
theorem jT8:∀(as:List Arg) (i:Nat) (bs:List (List C)) (q:Nat × Rt),q ∈ bpR i as bs->i<=q.1/\q.1<i+as.length
 |[],i,bs,q,h=>by cases bs <;> cases h
 |x ::as,i,bs,q,h=>by
  have next :∀{bs':List (List C)},q ∈ bpR (i+1) as bs'->i<=q.1/\q.1<i+(x ::as).length:=fun h=>by
   have:=jT8 as (i+1) _ q h;rw[List.length_cons];omega
  cases x with
  |bp l=>
   cases bs with
   |nil=>exact next (bs':=[]) h
   |cons b bs=>
    simp only[bpR]at h;rcases List.mem_cons.1 h with e|h
    .rw[e,List.length_cons];simp only;omega
    .exact next h
  |pl y=>exact next h
  |ow l one=>exact next h
  |rv l one=>exact next h
  |br l=>exact next h
end
section
variable {T:Tb}{c c' c'':Cf}{n:Nat}
def rsF (a:Act):ResultVar->Sem Value
 | .tmp t=>pure (a.tmps.getD t undef)
 | .cell ad t=>do loadVar t (<-asAddr (a.tmps.getD ad undef))
def jLD (T:Tb):Nat->List ResultVar->St->Option (List Nat × St)
 |_,[],st=>some ([],st)
 |i,.tmp t ::l,st=>if Nat.blt t 700000 then(match jLD T i l st with
  |some (ks,st')=>some (t ::ks,st')
  |none=>none) else none
 |i,.cell a t ::l,st=>if Nat.blt a 700000 then(match jLY (T.ti t) (lkt st.tm a) (lkr T st.rt) with
  |some x=>match jLD T (i+1) l ⟨upT st.tm (700000+i) x,st.rt⟩ with
   |some (ks,st')=>some ((700000+i) ::ks,st')
   |none=>none
  |none=>none) else none
theorem jPh {act:Act}:∀{l:List ResultVar}{i:Nat}{c:Cf}{ks:List Nat}{st':St},Ok T c->(∀t,t<700000->act.tmps.getD t undef=c.a t)->jLD T i l c.st=some (ks,st')->∃c',Ok T c'/\Stp T c c'/\c'.st=st'/\c'.w=c.w/\c'.X=c.X/\(∀t,t<700000+i->c'.a t=c.a t)/\(l.mapM (rsF act)).run T.P c.w= .ok (ks.map c'.a) c.w
 |[],i,c,ks,st',hc,ha,h=>by
  simp only[jLD]at h;cases h;exact⟨c,hc,Stp.refl c,rfl,rfl,rfl,fun _ _=>rfl,rfl⟩
 | .tmp t ::l,i,c,ks,st',hc,ha,h=>by
   simp only[jLD]at h
   split at h
   .rename_i B
    have B:t<700000:=Nat.le_of_ble_eq_true B
    split at h
    .rename_i ks1 st1 h1
     cases h;obtain⟨c',M,O,V,Y,Z,E,G⟩:=jPh hc ha h1;refine⟨c',M,O,V,Y,Z,E,?_⟩;rw[List.mapM_cons];simp only[Sem.run_bind,rsF,Sem.run_pure,Result.andThen_ok,G,List.map_cons];have h6:=E t (Nat.lt_of_lt_of_le B (Nat.le_add_right _ _));rw[ha t B,h6]
    .cases h
   .cases h
 | .cell a t ::l,i,c,ks,st',hc,ha,h=>by
   simp only[jLD]at h
   split at h
   .rename_i J
    have J:a<700000:=Nat.le_of_ble_eq_true J
    split at h
    .rename_i x hx
     split at h
     .rename_i ks1 st1 h1
      cases h;obtain⟨v,l1,l2,adr,l3⟩:=jSQ hc.sx.sr (hc.sx.sr.tms a) hx;obtain⟨p1,p2⟩:=hc.put (d:=700000+i) l2
      obtain⟨c',M,O,V,Y,Z,E,G⟩:=jPh (act:=act) (i:=i+1) p1 (fun t B=>by
       show _=upd c.a (700000+i) v t;unfold upd;rw[if_neg (by omega)]
       exact ha t B) h1
      refine⟨c',M,p2.trans O,V,Y,Z,fun t B=>?_,?_⟩
      .rw[E t (by omega)]
       show upd c.a (700000+i) v t=_;unfold upd;rw[if_neg (by omega)]
      .have hv:c'.a (700000+i)=v:=by
        rw[E _ (by omega)];exact if_pos rfl
       have hr:(rsF act (.cell a t)).run T.P c.w= .ok v c.w:=by
        show(do loadVar t (<-asAddr (act.tmps.getD a undef)):Sem Value).run T.P c.w=_;rw[ha a J];rw[l3]at l1 ⊢;simp only[Instr.loadAt,Instr.sureAddr,Sem.run_bind,Sem.run_pure,Result.andThen_ok]at l1;simp only[asAddr,Sem.run_bind,Sem.run_pure,Result.andThen_ok];exact l1
       have G:(l.mapM (rsF act)).run T.P c.w= .ok (ks1.map c'.a) c.w:=G;rw[List.mapM_cons];simp only[Sem.run_bind,hr,Result.andThen_ok,G,Sem.run_pure,List.map_cons,hv]
     .cases h
    .cases h
   .cases h
def one1:List Value->Value
 |[v]=>v
 |l=>.tuple l.toArray
theorem jVW {P:Program}{w:World}{fn:Func}{a:Act}{vs:List Value}(h:(fn.results.toList.mapM (rsF a)).run P w= .ok vs w):(Go.results fn a.tmps).run P w= .ok (one1 vs) w:=by
 have e:Go.results fn a.tmps=(do let vs <-fn.results.mapM (rsF a);pure (if h:vs.size=1 then vs[0] else .tuple vs)):=by
  unfold Go.results
  congr 1
 rw[e,Sem.run_bind,Array.mapM_eq_mapM_toList,Sem.run_map,h]
 cases vs with
 |nil=>rfl
 |cons x l=>
  cases l with
  |nil=>rfl
  |cons y l=>
   show Result.ok (if h:(x ::y ::l).toArray.size=1 then _ else _) w=_;rw[dif_neg (by simp)];rfl
theorem jY3 {f:Nat}{fn:Func}{O:Code}{as rs:List Arg}{bs:List (List C)}(hf:T.P.funcs[f]? =some fn) (hb:fn.body=some O) (h3:(fn.name == "runtime.NumGoroutine")=false) (hn:as.length<=fn.ntmps) (k7:as.length<=1000)
 (h:Vw T fn.ntmps O (fun e st=>(e= .normal\/e= .ret)/\∃ts st1 st2,jLD T 0 fn.results.toList st=some (ts,st1)/\jK2 T ts st1 rs st2/\jMS T st2 (bpR 0 as bs)/\kd0 st2 (bpR 0 as bs)=true/\jLb st2=true) (entry as)):Does T f as rs bs:=by
 refine⟨⟨fn,hf,by rw[hb];rfl,h3⟩,fun c hc hst hX hund=>calls_of_wp hf hb ?_⟩
 have v1:Ar fn.ntmps c {tmps:=((List.range as.length).map c.a).toArray ++Array.replicate (fn.ntmps-((List.range as.length).map c.a).toArray.size) undef,defers:=[]}:=by
  refine⟨by simp;omega,fun t=>?_,rfl⟩;simp only[Array.getD_eq_getD_getElem?];rw[Array.getElem?_append]
  by_cases M:t<as.length
  .rw[if_pos (by simpa using M)]
   simp[M]
  .rw[if_neg (by simpa using M),hund t (by omega)]
   rw[Array.getElem?_replicate]
   split <;> rfl
 refine wp_mono (h c _ hc v1 hst hX) fun e a w ⟨c0,j1,j2,j3,j4,k5,he,ts,st1,st2,hpr,hr,hbp,hk0,hkk⟩=>?_;obtain⟨B,k1,v7,ks,kw,kX,ka,h8⟩:=jPh (act:=a) j1 (fun t _=>k5.at' t) hpr;have k2:=j2.trans v7;have k3:B.w=w:=kw.trans j3;have k4:B.X=[]:=kX.trans j4;rw[<-ks]at hr;rw[j3]at h8
 have k6:a.defers=[]/\∃v,(Go.results fn a.tmps).run T.P w= .ok v w/\∃c' v',Ending.returned v= .returned v'/\c'.w=w/\Ok T c'/\Stp T c c'/\c'.st=jKl as rs bs/\c'.X=[]/\c'.a RK=v':=by
  refine⟨k5.nod,_,jVW h8,?_⟩;obtain⟨mo',fp',F,us,r1,r2,r3,r4,r5,r6,r7⟩:=hr.ok rfl k1;rw[k4,List.append_nil]at r1 r2;have h5:∀q ∈ bpR 0 as bs,q.1≠RK:=fun q hq=>by have:=jT8 as 0 bs q hq;unfold RK;omega
  have h6:∀k R,lkr T (bpR 0 as bs) k=some R->lkr T st2.rt k=some R:=fun k R hR=>by
   rcases jL1 (T:=T) hR with h|⟨_,cs,hcs,rfl⟩
   .exact hbp.at' h
   .have hge:1000000<=k:=by
     rcases Nat.lt_or_ge k 1000000 with h|h
     .rw[T.gl0 k h]at hcs;cases hcs
     .exact h
    have:=jLG (T:=T) hkk k hge;rw[hcs]at this;exact this
  obtain⟨h4,Z,s2⟩:=r1.restrict (st':=⟨[],bpR 0 as bs⟩) h6 (fun t=>⟨.inl rfl,fun l h=>by cases h⟩);have Z:Ok T ⟨B.w,B.A,⟨[],bpR 0 as bs⟩,mo',h4,B.a,F⟩:=Z
  have h7:Stp T c ⟨B.w,B.A,⟨[],bpR 0 as bs⟩,mo',h4,B.a,F⟩:=by
   refine k2.trans (r2.trans ⟨Below.refl _ _,fun _ _ _=>rfl,fun g G=>.inl ?_,fun _ h=>h,fun _ h=>.inl h,fun r R hR h0=>?_,fun r R hR h0 h9=>⟨h6 r R hR,rfl,s2 r (by rw[hR];rfl)⟩⟩)
   .rcases G with⟨k,R,hR,J,G⟩|G
    .have hR:lkr T (bpR 0 as bs) k=some R:=hR
     have G:g ∈ h4 k:=G;rw[s2 k (by show(lkr T (bpR 0 as bs) k).isSome=true;rw[hR];rfl)]at G;refine .inl ⟨k,R,?_,J,G⟩
     rcases jL1 (T:=T) hR with h|⟨_,cs,hcs,rfl⟩
     .exact hbp.at' h
     .cases J
    .exact .inr G
   .have hR:lkr T st2.rt r=some R:=hR
    have hm:=jN5 hR h0;have h1:=List.all_eq_true.1 hk0 _ hm;simp only[h0,BEq.rfl,Bool.not_true,Bool.false_or,List.any_eq_true]at h1;obtain⟨q,hq,e⟩:=h1;have e:q.1=r:=by simpa using e
    have r8:=hbp.at' (k:=q.1) (R:=q.2) hq;rw[e,hR]at r8;cases r8
    have hl:∃R',lkr T (bpR 0 as bs) r=some R':=by
     have:∀{l:List (Nat × Rt)},q ∈ l->∃R',lkr T l r=some R':=by
      intro l
      induction l with
      |nil=>intro h;cases h
      |cons x l ih=>
       intro h;obtain⟨j,S⟩:=x;simp only[lkr]
       split
       .exact⟨_,rfl⟩
       .rename_i hne
        rcases List.mem_cons.1 h with h|h
        .rw[h]at e;exact absurd e hne
        .exact ih h
     exact this hq
    obtain⟨R',k8⟩:=hl
    have:R'=q.2:=by
     rcases jL1 (T:=T) k8 with h|⟨h,_⟩
     .have:=hbp.at' h
      rw[hR]at this;cases this;rfl
     .exact absurd e (h q hq)
    exact⟨q.2,by show lkr T (bpR 0 as bs) r=_;rw[k8,this],h0,rfl,rfl⟩
  have r9:∀(m:Nat->Mo) (fq:Nat->List Nat),(jKw rs=true->(m RK).vs=us)->TV B.w B.A m fq (jKe RK rs) (one1 (ts.map B.a)):=fun m fq hm=>by
   have V:∀(j:Nat) (x:Av) (t:Nat),(Jr RK 0 rs)[j]? =some x->ts[j]? =some t->TV0 B.w B.A m fq x (B.a t):=fun j x t hx M=>by
    by_cases J:jKw rs=true
    .exact r7 [] [] m fq RK (by simp[hm J]) j x t hx M
    .have:=r7 [] [] (fun _=>⟨0,0,us,#[],0,(0,0)⟩) fq RK (by simp) j x t hx M
     have v6:∀l one,.ow l one ∉ rs:=fun l one h=>J (jP8 rs h);have q9:∀z,.pl z ∈ rs->jKg z=true:=fun z hz=>by have:=List.all_eq_true.1 r5 _ hz;exact this
     have k9:=jLX RK rs 0 q9 x (List.mem_of_getElem? hx);refine jRx (jLB rs (fun l one h=>absurd h (v6 l one)) 0 j x x _ q9 hx hx (mo:=fun _=>⟨0,0,us,#[],0,(0,0)⟩) (fp:=fq) ?_) k9;cases x <;> first|exact this|exact absurd rfl (k9 _)
   have E:=jNS RK rs 0;rw[r6]at E;unfold jKe
   cases hx :Jr RK 0 rs with
   |nil=>
    rw[hx]at E;have:ts=[]:=List.eq_nil_of_length_eq_zero (by simpa using E.symm);rw[this];exact⟨#[],rfl,rfl,fun j x u hx=>by simp at hx⟩
   |cons x l=>
    rw[hx]at E V
    cases ts with
    |nil=>simp at E
    |cons t ts=>
     cases l with
     |nil=>
      cases ts with
      |cons _ _=>simp at E
      |nil=>
       have h0:=V 0 x t rfl rfl;show TV B.w B.A m fq x (B.a t);cases x <;> first|exact h0|exact absurd h0 id
     |cons y l=>
      cases ts with
      |nil=>simp at E
      |cons t2 ts=>
       refine⟨_,rfl,by simp at E ⊢;omega,fun j z u hz Y=>?_⟩;have Y:((t ::t2 ::ts).map B.a)[j]? =some u:=by simpa using Y
       rw[List.getElem?_map]at Y
       cases M :(t ::t2 ::ts)[j]? with
       |none=>rw[M]at Y;cases Y
       |some t'=>
        rw[M]at Y;cases Y;exact V j z t' hz M
  by_cases J:jKw rs=true
  .have hnd:F.Nodup:=by have:=Z.sx.nd;exact this
   obtain⟨e1,e2⟩:=Z.lay (w':=B.w) (A':=B.A) (X':=[]) (r:=RK) (R':=⟨2,jK5 rs⟩) (m':=⟨0,0,us,#[],0,(0,0)⟩) (F':=F) (fun R hR=>by
    exfalso
    rcases jL1 (T:=T) hR with h|⟨_,cs,hcs,_⟩
    .exact h5 _ h rfl
    .rw[T.gl0 RK (by unfold RK;omega)]at hcs;cases hcs) (by unfold RK;omega) rfl (fun k _ _ _=>rfl) (Below.refl _ _) (fun k hk=>hk) (fun k hk=>⟨.inl hk,Z.al k hk⟩)
    (by
     unfold jJM;rw[if_neg (by simp),if_pos (by simp[isV])]
     exact r3) hnd (fun _ g G=>Z.sx.na g G) (fun g G=>.inr (.inl G)) List.nodup_nil (fun g G=>by cases G) (fun g G=>by cases G)
   obtain⟨p1,p2⟩:=e1.put (d:=RK) (x:=jKe RK rs) (v:=one1 (ts.map B.a)) (r9 _ _ fun _=>by show(upd mo' RK ⟨0,0,us,#[],0,(0,0)⟩ RK).vs=us;rw[jqp]);refine⟨_,_,rfl,(by exact k3),p1,h7.trans (e2.trans p2),?_,rfl,?_⟩
   .show(⟨upT [] RK (jKe RK rs),upR (bpR 0 as bs) RK ⟨2,jK5 rs⟩⟩:St)=_
    rw[jRv _ _ _ h5];unfold jKl;rw[J];rfl
   .show upd B.a RK (one1 (ts.map B.a)) RK=one1 (ts.map B.a)
    exact if_pos rfl
  .have J:jKw rs=false:=by simpa using J
   have hF:=r4 J;subst hF;obtain⟨p1,p2⟩:=Z.put (d:=RK) (x:=jKe RK rs) (v:=one1 (ts.map B.a)) (r9 _ _ fun h=>by rw[J]at h;cases h);refine⟨_,_,rfl,(by exact k3),p1,h7.trans p2,?_,rfl,?_⟩
   .show(⟨upT [] RK (jKe RK rs),bpR 0 as bs⟩:St)=_
    unfold jKl;rw[J];simp[upT]
   .show upd B.a RK (one1 (ts.map B.a)) RK=one1 (ts.map B.a)
    exact if_pos rfl
 rcases he with rfl|rfl
 .obtain⟨m1,v,m2,m3⟩:=k6
  exact⟨m1,v,m2,m3⟩
 .obtain⟨m1,v,m2,m3⟩:=k6
  exact⟨m1,v,m2,m3⟩
end
def nm0:Av->List Nat
 | .pa p=>if p.p.isEmpty then[] else[p.r]
 | .lo p=>[p.r]
 | .la p _=>[p.r]
 | .sb p _ _ _=>[p.r]
 |_=>[]
def nms:Av->List Nat
 | .tp l=>l.flatMap nm0
 |x=>nm0 x
def so0:Av->List Nat
 | .pa p=>if p.p.isEmpty then[p.r] else[]
 |_=>[]
def sof:Av->List Nat
 | .tp l=>l.flatMap so0
 |x=>so0 x
def jLc (wr wi:List Nat) (x:Av):Bool:=((nms x).any fun r=>wr.contains r) || (sof x).any fun r=>wr.contains r && !wi.contains r
def jJ2 (wr wi:List Nat) (x:Av):Av:=if jLc wr wi x then .u else x
def dem (R:Rt):Rt:=if R.kd=2 then⟨4,R.cs⟩ else if R.kd<=1 then⟨3,R.cs⟩ else R
structure Lt where
 ft:List Nat
 fr:List Nat
 wt:List Nat
 wr:List Nat
 wi:List Nat
 so:List Nat
 s:St
 s':St
structure LOk (T:Tb) (τ:Lt):Prop where
 st:∀t,t ∉ τ.ft->lkt τ.s.tm t= .u
 sr:∀k,k<1000000->k ∉ τ.fr->lkr T τ.s.rt k=none
 sn:∀t,∀r ∈ nms (lkt τ.s.tm t),(lkr T τ.s.rt r).isSome=true
 wn:∀t ∈ τ.wt,∀r ∈ nms (lkt τ.s'.tm t),r ∈ τ.wr\/((r ∈ τ.fr\/1000000<=r)/\∃R,lkr T τ.s'.rt r=some R/\own R=false/\R.kd≠9)
 ss:∀t,∀r ∈ sof (lkt τ.s.tm t),r ∈ τ.so
 ws:∀t ∈ τ.wt,∀r ∈ sof (lkt τ.s'.tm t),r ∈ τ.so/\(r ∈ τ.wr\/r ∈ τ.wi\/∃R,lkr T τ.s'.rt r=some R/\own R=false/\R.kd≠9)
 wi:∀r ∈ τ.wi,∃t o,t ∈ τ.ft/\t ∉ τ.wt/\lkt τ.s.tm t= .pa ⟨r,o,[]⟩/\lkt τ.s'.tm t= .pa ⟨r,o,[]⟩
 wk:∀k ∈ τ.wr,k<1000000
 sk:∀q ∈ τ.s.rt,¬1000000<=q.1
structure jLA (T:Tb) (τ:Lt) (st:St):Prop where
 tm:∀t ∈ τ.ft,lkt τ.s.tm t= .u\/lkt τ.s.tm t=lkt st.tm t
 rr:∀k ∈ τ.fr,k ∉ τ.wr->lkr T τ.s.rt k=(lkr T st.rt k).map dem
 rw:∀k ∈ τ.fr,k ∈ τ.wr->lkr T τ.s.rt k=lkr T st.rt k
 gk:∀k,1000000<=k->lkr T τ.s.rt k=lkr T st.rt k
 nw:∀k ∈ τ.wr,k ∉ τ.fr->∀R,lkr T st.rt k=some R->R.kd=1\/R.kd=2
structure Mrg (T:Tb) (τ:Lt) (st st':St):Prop where
 tw:∀t ∈ τ.wt,lkt st'.tm t=lkt τ.s'.tm t
 tk:∀t,t ∉ τ.wt->lkt st'.tm t=jJ2 τ.wr τ.wi (lkt st.tm t)
 rw:∀k ∈ τ.wr,lkr T st'.rt k=lkr T τ.s'.rt k
 rk:∀k,k ∉ τ.wr->lkr T st'.rt k=lkr T st.rt k
section
variable {T:Tb}{c c' c'':Cf}{w:World}{A:Nat->Prop}{mo mo':Nat->Mo}{fp fp':Nat->List Nat}
theorem TV0.nm {x:Av}{v:Value}(h:∀r ∈ nm0 x,mo' r=mo r/\fp' r=fp r) (hs:∀r ∈ so0 x,(mo' r).k=(mo r).k/\(mo' r).o=(mo r).o) (hx:TV0 w A mo fp x v):TV0 w A mo' fp' x v:=by
 cases x with
 |pa p=>
  cases hp :p.p with
  |nil=>
   obtain⟨B,h2⟩:=hs p.r (by simp[so0,hp]);obtain⟨g,a,E,G⟩:=hx;refine⟨g,a,fun w' _=>?_,G⟩;have:=E w (jJQ _ _);rw[hp]at this ⊢;simp only[ad]at this ⊢;rw[B,h2];exact this
  |cons q pp=>obtain⟨B,h2⟩:=h p.r (by simp[nm0,hp]);simp only[TV0,B,h2]at hx ⊢;exact hx
 |lo p=>obtain⟨B,h2⟩:=h p.r (by simp[nm0]);simp only[TV0,B,h2]at hx ⊢;exact hx
 |la p n=>obtain⟨B,h2⟩:=h p.r (by simp[nm0]);simp only[TV0,B,h2]at hx ⊢;exact hx
 |sb p z a b=>obtain⟨B,h2⟩:=h p.r (by simp[nm0]);simp only[TV0,B,h2]at hx ⊢;exact hx
 |_=>exact hx
theorem TV.nm {x:Av}{v:Value}(h:∀r ∈ nms x,mo' r=mo r/\fp' r=fp r) (hs:∀r ∈ sof x,(mo' r).k=(mo r).k/\(mo' r).o=(mo r).o) (hx:TV w A mo fp x v):TV w A mo' fp' x v:=by
 cases x with
 |tp l=>
  obtain⟨arr,B,E,G⟩:=hx;exact⟨arr,B,E,fun j y u hy hu=>TV0.nm (fun r hr=>h r (List.mem_flatMap.2 ⟨y,List.mem_of_getElem? hy,hr⟩)) (fun r hr=>hs r (List.mem_flatMap.2 ⟨y,List.mem_of_getElem? hy,hr⟩)) (G j y u hy hu)⟩
 |c _=>exact TV0.nm (w:=w) (A:=A) (x:=.c _) h hs hx
 |ag _=>exact TV0.nm (w:=w) (A:=A) (x:=.ag _) h hs hx
 |nl=>exact hx
 |pa _=>exact TV0.nm (w:=w) (A:=A) (x:=.pa _) h hs hx
 |lo _=>exact TV0.nm (w:=w) (A:=A) (x:=.lo _) h hs hx
 |la _ _=>exact TV0.nm (w:=w) (A:=A) (x:=.la _ _) h hs hx
 |sb _ _ _ _=>exact TV0.nm (w:=w) (A:=A) (x:=.sb _ _ _ _) h hs hx
 |ev _ _=>exact TV0.nm (w:=w) (A:=A) (x:=.ev _ _) h hs hx
 |u=>trivial
theorem jYl {wr wi:List Nat}{x:Av}(h:jLc wr wi x=false):(∀r ∈ nms x,r ∉ wr)/\∀r ∈ sof x,r ∈ wr->r ∈ wi:=by
 unfold jLc at h;simp only[Bool.or_eq_false_iff,List.any_eq_false,Bool.and_eq_true,not_and]at h;refine⟨fun r hr hw=>h.1 r hr (List.contains_iff_mem.2 hw),fun r hr hw=>?_⟩;have:=h.2 r hr (List.contains_iff_mem.2 hw);simpa using this
theorem jYk {wr wi:List Nat}{x:Av}(B:∀r ∈ nms x,r ∉ wr) (h2:∀r ∈ sof x,r ∈ wr->r ∈ wi):jLc wr wi x=false:=by
 unfold jLc;simp only[Bool.or_eq_false_iff,List.any_eq_false,Bool.and_eq_true,not_and];refine⟨fun r hr hw=>B r hr (List.contains_iff_mem.1 hw),fun r hr hw=>?_⟩;have:=h2 r hr (List.contains_iff_mem.1 hw);simpa using this
theorem jTM (R:Rt):own (dem R)=false:=by
 unfold dem own
 split
 .simp
 .split
  .simp
  .simp;omega
theorem jJM.dem {R:Rt}{m:Mo}{F:List Nat}(h:jJM w A R m F):jJM w A (V.dem R) m F:=by
 unfold V.dem
 split
 .rename_i e
  unfold jJM at h ⊢;rw[if_neg (by omega),if_pos (by simp[isV,e])]at h;rw[if_neg (by simp),if_pos (by simp[isV])];exact h
 .rename_i e
  split
  .rename_i e1
   unfold jJM at h ⊢;rw[if_neg (by omega),if_neg (by simp[isV];omega)]at h;rw[if_neg (by simp),if_neg (by simp[isV])];obtain⟨F',arr,B,h2,E,G,J,_⟩:=h;exact⟨F',arr,B,⟨h2.blk,fun h=>(by cases h),h2.le,h2.rl⟩,E,G,J,fun h=>(by cases h)⟩
  .exact h
end
end V
end Go.Proofs.YtnhbcdnmfafbiaaGreatDoor
