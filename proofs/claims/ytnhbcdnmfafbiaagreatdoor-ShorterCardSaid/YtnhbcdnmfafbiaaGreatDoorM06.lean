import Derived.Test.YtnhbcdnmfafbiaaGreatDoorM05
import Derived.Laws.IdiomCopy
set_option linter.unusedVariables false
set_option linter.unusedSimpArgs false
set_option maxHeartbeats 20000000
namespace Go.Proofs.YtnhbcdnmfafbiaaGreatDoor
namespace V
open Go.RowKit
section
variable {T:Tb}{c c' c'':Cf}
theorem Ok.world (B:Ok T c) {w':World}{A':Nat->Prop}{X':List Nat}(J:∀k,k<c.w.heap.size->k ∉ c.X->w'.heap[k]? =c.w.heap[k]?) (hlow:Below 0 c.w w') (P:∀k,c.A k->A' k) (G:∀k,A' k->(c.A k\/k ∈ c.X\/c.w.heap.size<=k)/\k<w'.heap.size) (V:X'.Nodup) (E:∀g ∈ X',(g ∈ c.X\/c.w.heap.size<=g)/\g<w'.heap.size/\¬A' g):Ok T {c with w:=w',A:=A',X:=X'}/\Stp T c {c with w:=w',A:=A',X:=X'}:=by
 have M:∀k,c.A k->A' k/\w'.heap[k]? =c.w.heap[k]?:=fun k hk=>⟨P k hk,J k (B.al k hk) fun hx=>B.sx.na k hx hk⟩
 have Y:=hlow.size;have O:∀k,∀g ∈ c.fp k,w'.heap[g]? =c.w.heap[g]?:=fun k g hg=>J g (jKa B.sx.sr hg) fun hx=>B.sx.dj g hx k hg;refine⟨⟨⟨⟨fun k R hR=>(B.sx.sr.rts k R hR).stay M (O k),B.sx.sr.nd,fun k R hR ho g hg h=>?_,B.sx.sr.dj,fun t=>TV.same M O (B.sx.sr.tms t),B.sx.sr.nf,B.sx.sr.gl⟩,V,fun g hg=>(E g hg).2.2,fun g hg k hk=>?_,fun g hg=>(E g hg).2.1⟩,fun k hk=>(G k hk).2⟩,hlow,fun g hg hno=>J g hg fun hx=>hno (.inr hx),fun g hg=>?_,P,fun g hg=>?_,fun r R h1 h2=>⟨R,h1,h2,rfl,rfl⟩,fun r R h _ _=>⟨h,rfl,rfl⟩⟩
 .rcases(G g h).1 with h|h|h
  .exact B.sx.sr.fa k R hR ho g hg h
  .exact B.sx.dj g h k hg
  .have:=jKa B.sx.sr hg;omega
 .rcases(E g hg).1 with h|h
  .exact B.sx.dj g h k hk
  .have:=jKa B.sx.sr hk;omega
 .rcases hg with h|h
  .exact .inl (.inl h)
  .rcases(E g h).1 with h|h
   .exact .inl (.inr h)
   .exact .inr h
 .rcases(G g hg).1 with h|h|h
  .exact .inl h
  .exact .inr (.inl (.inr h))
  .exact .inr (.inr h)
theorem Ok.restrict (E:Ok T c) {st':St}(J:∀k R,lkr T st'.rt k=some R->lkr T c.st.rt k=some R) (P:∀t,(lkt st'.tm t= .u\/(lkt st'.tm t=lkt c.st.tm t/\∀p,(lkt st'.tm t= .pa p\/lkt st'.tm t= .lo p\/(∃n,lkt st'.tm t= .la p n)\/(∃z a b,lkt st'.tm t= .sb p z a b))->∃R,lkr T st'.rt p.r=some R))/\∀l,lkt st'.tm t≠.tp l):∃fp',Ok T {c with st:=st',fp:=fp'}/\(∀k,(lkr T st'.rt k).isSome=true->fp' k=c.fp k):=by
 refine⟨fun k=>if(lkr T st'.rt k).isSome then c.fp k else[],⟨⟨⟨fun k R hR=>?_,fun k R hR=>?_,fun k R hR ho g hg=>?_,fun k k' K K' hne hK hK' ho g hg=>?_,fun t=>?_,fun k hk=>?_,E.sx.sr.gl⟩,E.sx.nd,E.sx.na,fun g hg k hk=>?_,E.sx.lt⟩,E.al⟩,fun k hk=>if_pos hk⟩
 .show jJM c.w c.A R (c.mo k) (if(lkr T st'.rt k).isSome=true then c.fp k else[])
  rw[if_pos (by have:lkr T st'.rt k=some R:=hR;rw[this];rfl)];exact E.sx.sr.rts k R (J k R hR)
 .show(if(lkr T st'.rt k).isSome=true then c.fp k else[]).Nodup
  rw[if_pos (by have:lkr T st'.rt k=some R:=hR;rw[this];rfl)];exact E.sx.sr.nd k R (J k R hR)
 .have hg:g ∈ (if(lkr T st'.rt k).isSome=true then c.fp k else[]):=hg
  rw[if_pos (by have:lkr T st'.rt k=some R:=hR;rw[this];rfl)]at hg;exact E.sx.sr.fa k R (J k R hR) ho g hg
 .have hg:g ∈ (if(lkr T st'.rt k).isSome=true then c.fp k else[]):=hg
  rw[if_pos (by have:lkr T st'.rt k=some K:=hK;rw[this];rfl)]at hg;show g ∉ (if(lkr T st'.rt k').isSome=true then c.fp k' else[]);rw[if_pos (by have:lkr T st'.rt k'=some K':=hK';rw[this];rfl)];exact E.sx.sr.dj k k' K K' hne (J k K hK) (J k' K' hK') ho g hg
 .obtain⟨h,hnt⟩:=P t
  rcases h with h|⟨h,hp⟩
  .show TV _ _ _ _ (lkt st'.tm t) _
   rw[h];trivial
  .have h0:=E.sx.sr.tms t
   rw[<-h]at h0;show TV c.w c.A c.mo _ (lkt st'.tm t) _;generalize hx:lkt st'.tm t=x at *
   have G:∀p,(x= .pa p\/x= .lo p\/(∃n,x= .la p n)\/(∃z a b,x= .sb p z a b))->(if(lkr T st'.rt p.r).isSome=true then c.fp p.r else[])=c.fp p.r:=fun p hp'=>by
    obtain⟨R,hR⟩:=hp p hp';rw[if_pos (by rw[hR];rfl)]
   cases x with
   |c y=>exact h0
   |ag l=>exact h0
   |nl=>exact h0
   |pa p=>
    obtain⟨g,q,M,O⟩:=h0;exact⟨g,q,fun w' B=>M w' (by have B:Agr (if(lkr T st'.rt p.r).isSome=true then c.fp p.r else[]) _ _:=B;rw[G p (.inl rfl)]at B;exact B),O⟩
   |lo p=>exact fun w' B=>h0 w' (by have B:Agr (if(lkr T st'.rt p.r).isSome=true then c.fp p.r else[]) _ _:=B;rw[G p (.inr (.inl rfl))]at B;exact B)
   |la p n=>
    obtain⟨arr,M,O,V⟩:=h0;exact⟨arr,M,O,fun w' B=>V w' (by have B:Agr (if(lkr T st'.rt p.r).isSome=true then c.fp p.r else[]) _ _:=B;rw[G p (.inr (.inr (.inl ⟨n,rfl⟩)))]at B;exact B)⟩
   |sb p z a b=>
    obtain⟨g,len,cap,M,O⟩:=h0;exact⟨g,len,cap,fun w' B=>M w' (by have B:Agr (if(lkr T st'.rt p.r).isSome=true then c.fp p.r else[]) _ _:=B;rw[G p (.inr (.inr (.inr ⟨z,a,b,rfl⟩)))]at B;exact B),O⟩
   |ev l o=>exact h0
   |tp l=>exact absurd rfl (hnt l)
   |u=>trivial
 .show(if(lkr T st'.rt k).isSome=true then c.fp k else[])=[]
  have hk:lkr T st'.rt k=none:=hk;rw[hk];rfl
 .have hk:g ∈ (if(lkr T st'.rt k).isSome=true then c.fp k else[]):=hk
  split at hk
  .exact E.sx.dj g hg k hk
  .cases hk
theorem jWK {w:World}{A:Nat->Prop}{mo:Nat->Mo}{fp:Nat->List Nat}(v:Value):TV w A mo fp (ofV v) v:=by
 unfold ofV
 split
 .rename_i l
  split
  .rename_i m hm
   exact⟨⟨l⟩,rfl,jQO hm⟩
  .trivial
 .rfl
 .exact⟨#[],rfl,rfl,fun j x u hx=>by simp at hx⟩
 .split
  .rename_i x hx
   exact jQR hx
  .trivial
theorem Ok.op (B:Ok T c) {act:Act}(ha:∀t,act.tmps.getD t undef=c.a t) (x:Operand):TV c.w c.A c.mo c.fp (evo T c.st x) (act.eval x):=by
 cases x with
 |tmp t=>
  show TV _ _ _ _ (lkt c.st.tm t) (act.tmps.getD t undef);rw[ha t];exact B.sx.sr.tms t
 |const v=>exact jWK v
 |global g=>
  show TV _ _ _ _ (match T.gl (1000000+g)with|some _=>Av.pa ⟨1000000+g,0,[]⟩|none=>.u) (.pointer (some ⟨g,0,none⟩))
  split
  .rename_i cs hg
   obtain⟨E,h2,_⟩:=B.sx.sr.gl g cs hg;exact⟨g,0,fun w' _=>by simp only[ad,E,h2],rfl⟩
  .trivial
 |func f=>trivial
end
def jQP (T:Tb) (p:Pth) (td:TypeId):Bool:=p.p.isEmpty && Nat.blt p.r 1000000 && Nat.beq (T.ti td).kd 1 && !(Nat.beq (T.ti (T.ti td).el).kd 0) && Nat.beq (T.ti (T.ti td).el).sz 1
def jM5 (T:Tb) (st:St) (td:TypeId) (x y:Av):Option (Av × St):=match x with
 | .lo p=>if jQP T p td then match lkr T st.rt p.r with
   |some R=>if own R && !(R.kd == 9) && !(isV R) then match R.cs[p.o]? with
    |some (.r true zo l0)=>match jK4 y (lkr T st.rt) with
     |some (zz,l)=>if zo=1/\zz=1/\l.length=l0.length/\0<l.length/\(l.all fun e=>e.all plain)=true then some (.c (.i .i64 (l.length:Nat)),⟨jKt p.r p.o 1 st.tm,upR st.rt p.r ⟨R.kd,R.cs.set p.o (.r true 1 l)⟩⟩) else none
     |none=>none
    |_=>none
    else none
   |none=>none
   else none
 |_=>none
section
variable {T:Tb}{c c' c'':Cf}
theorem spl1 {α:Type}{V:List α}{o:Nat}{v:α}(h:V[o]? =some v):V=V.take o ++([v] ++V.drop (o+1)):=by
 have hl:=(List.getElem?_eq_some_iff.1 h).1;have B:=(List.getElem?_eq_some_iff.1 h).2;rw[<-B,List.singleton_append,<-List.drop_eq_getElem_cons hl,List.take_append_drop]
theorem Ok.cpy (J:Ok T c) {V ts ty:TypeId}{x y:Av}{u uy:Value}{v:Av}{st':St}(hx:TV c.w c.A c.mo c.fp x u) (hy:TV c.w c.A c.mo c.fp y uy) (h:jM5 T c.st V x y=some (v,st')):∃c1 v',Ok T c1/\Stp T c c1/\c1.st=st'/\c1.a=c.a/\c1.X=c.X/\(Builtin.copy_ #[V,ts] ty #[u,uy]).run T.P c.w= .ok v' c1.w/\TV c1.w c1.A c1.mo c1.fp v v':=by
 unfold jM5 at h
 split at h
 .rename_i p
  split at h
  .rename_i hb
   unfold jQP at hb;simp only[Bool.and_eq_true]at hb;obtain⟨⟨⟨⟨hp,h8⟩,h3⟩,h4⟩,k5⟩:=hb;rw[List.isEmpty_iff]at hp;have h8:p.r<1000000:=Nat.le_of_ble_eq_true h8;have h3:=Nat.eq_of_beq_eq_true h3;have k5:=Nat.eq_of_beq_eq_true k5;have h4:(T.ti (T.ti V).el).kd≠0:=fun e=>by rw[e]at h4;cases h4
   split at h
   .rename_i R hR
    split at h
    .rename_i ho
     simp only[Bool.and_eq_true]at ho;obtain⟨⟨ho,h9⟩,G⟩:=ho;have h9:R.kd≠9:=by simpa using h9
     have G:isV R=false:=by simpa using G
     split at h
     .rename_i zo l0 hcell
      split at h
      .rename_i zz l hrow
       split at h
       .rename_i hq
        obtain⟨rfl,rfl,h6,h5,v8⟩:=hq;cases h;have hS:=J.sx.sr;have Z:=hS.rts _ _ hR;have E:=hS.nd _ _ hR;have k4:=hS.fa _ _ hR ho;unfold jJM at Z;rw[if_neg h9,G]at Z;simp only[Bool.false_eq_true,if_false]at Z;obtain⟨F',arr,hF,hL,k2,x2,r3,h1⟩:=Z;obtain⟨v0,F1,Fc,F2,k7,O,x0,r1,r2⟩:=hL.rl.at hcell;have v7:=(List.getElem?_eq_some_iff.1 hcell).1
        have hu:u=v0:=by
         have e:=hx c.w (jJQ _ _);unfold vls at e;rw[hp]at e;simp only at e;have B:(c.mo p.r).vs.length=R.cs.length:=by rw[k2];exact hL.rl.len.symm
         rw[if_pos (by omega)]at e
         have e2:((c.mo p.r).vs.drop p.o).take 1=[v0]:=by
          rw[k2];rw[List.take_one,List.head?_drop,k7];rfl
         rw[e2]at e;cases e;rfl
        subst hu;obtain⟨base,k9,Fy,eu,r5⟩:=jR0 J hy hrow (.inl rfl)
        rcases r5 with⟨e0,_⟩|⟨g2,o2,k8,x5,x3,rfl,s2,s3,s4⟩
        .rw[e0]at h5;exact absurd h5 (by simp)
        cases x0 with
        |rn=>exact absurd h5 (by rw[h6];simp)
        |@ro g _ F0 _ cap arrg tyg fzg b1 b2 b3 b4 b5 b6=>
         have M:=s4.flat;have r7:=RE.pl s4 v8;subst r7;generalize hus:(k8.toList.drop o2).take (l.length*1)=us at M;have k6:us.length=l.length:=by rw[<-hus,List.length_take,List.length_drop];simp;omega
         have k1:∀k ∈ F1 ++F2,k≠g:=fun k hk e=>by
          subst e;rw[hF,O]at E;simp only[List.nodup_cons,List.nodup_append,List.mem_append,List.mem_cons]at E hk;rcases hk with hk|hk
          .exact E.2.1.2.2 _ hk _ (.inl rfl) rfl
          .exact E.2.2.2 _ (.inr (.inl rfl)) _ hk rfl
         have r9:g≠(c.mo p.r).k:=fun e=>by
          rw[hF,O,<-e]at E;simp at E
         have k3:g ∈ c.fp p.r:=by rw[hF,O];simp
         obtain⟨w1,w2,w3⟩:=jNN g us 0 c.w b1
         have hA:∀k,c.A k->c.A k/\(c.w.setCells g 0 us).heap[k]? =c.w.heap[k]?:=fun k hk=>⟨hk,w3 k fun e=>k4 g k3 (by rw[<-e];exact hk)⟩
         have r8:R.cs.set p.o (.r true 1 l)=R.cs.take p.o ++([.r true 1 l] ++R.cs.drop (p.o+1)):=by rw[List.set_eq_take_append_cons_drop,if_pos v7];rfl
         have x4:l.length<=arrg.size:=by have:=b4;simp at this;omega
         have q9:RC (c.w.setCells g 0 us) c.A (.r true 1 l) (.slice (some ⟨g,0,none⟩) l0.length cap) [g]:=by
          rw[<-h6];refine .ro w1 (by rw[jMw];exact b2) (by omega) (by rw[jMw];exact b4) (by omega) ?_;have v6:∀e ∈ l,e.length=1:=RE.lens' s4;have:=RE.of (z:=1) l (M.st hA (fun k hk=>by cases hk)) v6 (arrg.toList.drop (0+us.length));rw[jM1 us 0 arrg (by omega)];simpa using this
         have r6:((arr.toList.drop (c.mo p.r).o).take R.cs.length)=((arr.toList.drop (c.mo p.r).o).take R.cs.length).take p.o ++([.slice (some ⟨g,0,none⟩) l0.length cap] ++((arr.toList.drop (c.mo p.r).o).take R.cs.length).drop (p.o+1)):=spl1 k7
         have x1:RL (c.w.setCells g 0 us) c.A (R.cs.set p.o (.r true 1 l)) ((arr.toList.drop (c.mo p.r).o).take R.cs.length) (F1 ++([g] ++[] ++F2)):=by
          rw[r8,r6];exact RL.app (r1.st hA fun k hk=>w3 k (k1 k (by simp[hk]))) (RL.app (.cons q9 .nil) (r2.st hA fun k hk=>w3 k (k1 k (by simp[hk]))))
         have B:(R.cs.set p.o (.r true 1 l)).length=R.cs.length:=by simp
         have Y:∀k ∈ (c.mo p.r).k ::(F1 ++([g] ++[] ++F2)),k ∈ c.fp p.r:=fun k hk=>by
          rw[hF,O];simp only[List.mem_cons,List.mem_append,List.append_nil,List.not_mem_nil,or_false]at hk ⊢;rcases hk with h|h|h|h <;> simp[h]
         obtain⟨d1,d2⟩:=J.turn (o:=p.o) (n:=1) (w':=c.w.setCells g 0 us) (A':=c.A) (X':=c.X) (R':=⟨R.kd,R.cs.set p.o (.r true 1 l)⟩) (m':=c.mo p.r) (F':=(c.mo p.r).k ::(F1 ++([g] ++[] ++F2))) hR ho rfl B rfl rfl (fun _ _=>rfl) h8 (fun k hk hne _=>w3 k fun e=>hne (by rw[e];exact k3)) (jNM _ _ _ _) (fun k hk=>hk) (fun k hk=>⟨.inl hk,by rw[w2];exact J.al k hk⟩)
          (by
           unfold jJM;rw[if_neg h9,if_neg (by rw[show isV ⟨R.kd,R.cs.set p.o (.r true 1 l)⟩=false from G];simp)]
           refine⟨_,arr,rfl,⟨by rw[w3 _ (fun e=>r9 e.symm)];exact hL.blk,hL.okz,by simp only[B];exact hL.le,by simp only[B];exact x1⟩,by simp only[B];exact k2,x2,by simp only[B];exact r3,by simp only[B];exact h1⟩)
          (by
           have h7:=E;rw[hF,O]at h7;refine List.Sublist.nodup ?_ h7;refine List.Sublist.cons_cons _ ?_;rw[List.append_assoc F1 (g ::F0) F2]
           exact List.Sublist.append (List.Sublist.refl _) (List.Sublist.append (List.Sublist.cons_cons _ (List.nil_sublist _)) (List.Sublist.refl _)))
          (fun k hk=>k4 k (Y k hk)) (fun k hk=>.inl (Y k hk)) J.sx.nd (fun k hk=>J.sx.na k hk) (fun k hk=>⟨.inr (.inl hk),fun h=>J.sx.dj k hk p.r (Y k h),by rw[w2];exact J.sx.lt k hk⟩)
         obtain⟨i,dd,i1,i2,i3,i4,i5,i6,rfl⟩:=inv h3
         obtain⟨ke,v1⟩:∃k,(T.ti (T.ti V).el).kd=k+1:=⟨(T.ti (T.ti V).el).kd-1,by omega⟩
         obtain⟨i',d',j1,j2,j3,_⟩:=inv v1
         have r4:=run_copy_cells (P:=T.P) c.w V ts ty (T.ti V).el g 0 l0.length cap ⟨g2,o2,none⟩ l.length k9 us i2 (by rw[j1];simp;omega) (by rw[k6,h6];simp) (fun j v G=>by
          rw[<-hus,List.getElem?_take]at G
          split at G
          .rw[List.getElem?_drop,Array.getElem?_toList]at G
           rw[Addr.add_lit,cell_of s2];exact G
          .cases G) (fun j hj=>by rw[cell_of b1,Array.getElem?_eq_getElem (by omega)];rfl) (fun j hj=>jQc b1 b2 (by omega)) M.ones
         refine⟨_,_,d1,d2,rfl,rfl,rfl,by rw[eu];exact r4,?_⟩;rw[k6];exact RC.i _ _
       .cases h
      .cases h
     .cases h
    .cases h
   .cases h
  .cases h
 .cases h
end
def samB (T:Tb) (p:Pth) (t:TypeId):Bool:=p.p.isEmpty && Nat.beq p.o 0 && Nat.blt p.r 1000000 && Nat.beq (T.ti t).kd 1 && Nat.beq (T.ti (T.ti t).el).kd 5 && (T.ti (T.ti t).el).ik == .u8
def jPs (T:Tb) (st:St) (t:TypeId) (x:Av):Option (Av × St):=match x with
 | .lo p=>if samB T p t then match lkr T st.rt p.r with
   |some R=>if R.kd=2 then match R.cs with
    |[.r true z (e ::l)]=>some (.lo p,⟨jKt p.r 0 0 st.tm,upR st.rt p.r R⟩)
    |_=>none
    else none
   |none=>none
   else none
 |_=>none
section
variable {T:Tb}{c:Cf}
theorem Ok.sam (B:Ok T c) {t:TypeId}{x:Av}{u:Value}{v:Av}{st':St}(hx:TV c.w c.A c.mo c.fp x u) (h:jPs T c.st t x=some (v,st')):∃c1 v',Ok T c1/\Stp T c c1/\c1.st=st'/\c1.a=c.a/\c1.X=c.X/\(convert t t u).run T.P c.w= .ok v' c1.w/\TV c1.w c1.A c1.mo c1.fp v v':=by
 unfold jPs at h
 split at h
 .rename_i p
  split at h
  .rename_i hb
   unfold samB at hb;simp only[Bool.and_eq_true]at hb;obtain⟨⟨⟨⟨⟨hp,G⟩,h4⟩,Y⟩,Z⟩,h3⟩:=hb;rw[List.isEmpty_iff]at hp;have G:=Nat.eq_of_beq_eq_true G;have h4:p.r<1000000:=Nat.le_of_ble_eq_true h4;have Y:=Nat.eq_of_beq_eq_true Y;have Z:=Nat.eq_of_beq_eq_true Z;have h3:(T.ti (T.ti t).el).ik= .u8:=by simpa using h3
   split at h
   .rename_i R hR
    split at h
    .rename_i hkd
     split at h
     .rename_i z e l hcs
      cases h;have hS:=B.sx.sr;have J:=hS.rts _ _ hR;have E:=hS.nd _ _ hR;have ho:own R=true:=by unfold own;simp[hkd]
      have hv:isV R=true:=by unfold isV;simp[hkd]
      have V:=hS.fa _ _ hR ho;unfold jJM at J;rw[if_neg (by omega),hv,if_pos rfl,hcs]at J;obtain⟨v0,M,h5⟩:=RL.one1 J
      have hu:u=v0:=by
       have e1:=hx c.w (jJQ _ _);unfold vls at e1;rw[hp]at e1;simp only[G,M]at e1;simpa using e1.symm
      subst hu;generalize hF:c.fp p.r=F at h5 E V J
      cases h5 with
      |@ro g _ F0 _ cap arr ty fz b1 b2 b3 b4 b5 b6=>
       have r1:g<c.w.heap.size:=(Array.getElem?_eq_some_iff.1 b1).1;obtain⟨i',d',j1,j2,j3,j4,j5,j6,rfl⟩:=inv Y;obtain⟨r2,q9,k1,k2,k3,k4,k5,k6,rfl⟩:=inv Z;rw[h3]at k2;have k9:c.w.shape? g=some (ty,arr.size):=by simp[World.shape?,b1]
       have hr:(convert t t (.slice (some ⟨g,0,none⟩) (e ::l).length cap)).run T.P c.w= .ok (.slice (some ⟨g,0,none⟩) (e ::l).length cap) (c.w.freeze ⟨g,arr.size,none⟩ 1):=by
        simp[convert,run_underlying j2,run_underlying k2,markStringish,k9]
       obtain⟨O,h8,h7⟩:∃O,okz arr.size O/\(c.w.freeze ⟨g,arr.size,none⟩ 1).heap[g]? =some (.cells arr ty O):=by
        obtain⟨lo,hi⟩:=fz;refine⟨if lo == hi then(arr.size,arr.size+1) else(min lo arr.size,max hi (arr.size+1)),?_,?_⟩
        .split
         .exact .inr (Nat.le_refl _)
         .rename_i hne
          rcases b2 with q|q
          .exact absurd (by simpa using q) hne
          .refine .inr ?_
           show arr.size<=min lo arr.size;have q:arr.size<=lo:=q;omega
        .unfold World.freeze
         rw[if_neg (by omega)];simp only;rw[Array.getElem?_modify,if_pos rfl,b1];rfl
       have kp:∀k,k≠g->(c.w.freeze ⟨g,arr.size,none⟩ 1).heap[k]? =c.w.heap[k]?:=fun k hk=>by
        unfold World.freeze;rw[if_neg (by omega)];simp only;rw[Array.getElem?_modify,if_neg (Ne.symm hk)]
       have hz:(c.w.freeze ⟨g,arr.size,none⟩ 1).heap.size=c.w.heap.size:=by
        unfold World.freeze;rw[if_neg (by omega)];simp
       have low:Below 0 c.w (c.w.freeze ⟨g,arr.size,none⟩ 1):=⟨by unfold World.freeze;rw[if_neg (by omega)],by unfold World.freeze;rw[if_neg (by omega)],by unfold World.freeze;rw[if_neg (by omega)],by rw[hz];omega,fun k hk=>absurd hk (Nat.not_lt_zero _)⟩
       have h9:∀k ∈ F0,k≠g:=fun k hk e=>by
        rw[List.nodup_cons]at E;exact E.1 (e ▸ hk)
       have h6:∀k,c.A k->k≠g:=fun k hk e=>V g (List.mem_cons_self ..) (e ▸ hk);have k7:RE (c.w.freeze ⟨g,arr.size,none⟩ 1) c.A z (e ::l) arr.toList F0:=b6.st (fun k hk=>⟨hk,kp k (h6 k hk)⟩) (fun k hk=>kp k (h9 k hk))
       have k8:RL (c.w.freeze ⟨g,arr.size,none⟩ 1) c.A [.r true z (e ::l)] (c.mo p.r).vs (g ::F0):=by
        rw[M];have:=RL.cons (RC.ro (cap:=cap) h7 h8 b3 b4 b5 k7) .nil;simpa using this
       obtain⟨d1,d2⟩:=B.turn (o:=0) (n:=0) (w':=c.w.freeze ⟨g,arr.size,none⟩ 1) (A':=c.A) (X':=c.X) (R':=R) (m':=c.mo p.r) (F':=g ::F0) hR ho rfl rfl rfl rfl (fun _ _=>rfl) h4 (fun k _ h1 _=>kp k (fun e=>h1 (by rw[hF,e];exact List.mem_cons_self ..))) low (fun _ h=>h) (fun k hk=>⟨.inl hk,by rw[hz];exact B.al k hk⟩) (by
        unfold jJM;rw[if_neg (by omega),hv,if_pos rfl,hcs]
        exact k8) E V (fun g hg=>.inl (by rw[hF];exact hg)) B.sx.nd B.sx.na (fun k hk=>⟨.inr (.inl hk),fun h=>B.sx.dj k hk p.r (by rw[hF];exact h),by rw[hz];exact B.sx.lt k hk⟩)
       refine⟨_,_,d1,d2,rfl,rfl,rfl,hr,?_⟩;show TV _ _ (upd c.mo p.r (c.mo p.r)) _ (.lo p) _;intro w' _;unfold vls;rw[hp];simp only[upd,if_true,G,M];simp
     .cases h
    .cases h
   .cases h
  .cases h
 .cases h
end
structure Ar (n:Nat) (c:Cf) (act:Act):Prop where
 size:act.tmps.size=n
 at':∀t,act.tmps.getD t undef=c.a t
 nod:act.defers=[]
def fin (d:Nat):Option (Av × St)->Option St
 |some (v,st)=>some ⟨upT st.tm d v,st.rt⟩
 |none=>none
def jMt (st:St) (d:Nat):Option Av->Option St
 |some v=>some ⟨upT st.tm d v,st.rt⟩
 |none=>none
def jSn (T:Tb) (st:St) (d:Nat) (x:Av):Option St:=match x with
 | .lo p=>if lone (lkr T st.rt) p && !(p.r == d) then(match takeV T st (.lo p) with
  |some ([c],st1)=>fin d (mkVal T st1 d c)
  |_=>none) else jMt st d (some (.lo p))
 |x=>jMt st d (some x)
def jPy (T:Tb) (st:St) (d:Nat) (t:TypeId) (ps:List (Nat × Av)):Option (Av × St):=match jMs T t (ps.map fun q=>(q.1,cls q.2)) with
 |some l=>some (.ag l,st)
 |none=>match ps.reverse with
  |(f,.lo p) ::r=>match takeP T st p 1 with
   |some (l1,st1)=>match jMs T t ((r.reverse.map fun q=>(q.1,cls q.2)) ++[(f,some l1)]) with
    |some l=>mkAgg T st1 d l
    |none=>none
   |none=>none
  |_=>none
def jKG (T:Tb) (n:Nat) (fz:List Nat) (st:St) (o:Oper):Option St:=match o.dst with
 |none=>match o.op with
  | .store t a x=>jM3 T st t (evo T st x) (fun s=>evo T s a)
  |_=>none
 |some d=>if d<n then(match o.op with
  | .alloc t=>fin d (jPB T st d t)
  | .box t x=>fin d (jPx T st d (evo T st x))
  | .buildSlice t k ps=>fin d (jPz T st d (fz.contains d) t k (ps.toList.map fun q=>(q.1,evo T st q.2)))
  | .makeSlice t l c=>fin d (jM4 T st d t (evo T st l) (evo T st c))
  | .call ⟨.builtin .append,⟨[s,x]⟩,⟨[ts,tx]⟩⟩=>if jLr (evo T st s) then fin d (jM6 T st d ts tx (evo T st s) (fun s'=>evo T s' x)) else none
  | .call ⟨.builtin .copy,⟨[x,y]⟩,⟨[tx,ty]⟩⟩=>fin d (jM5 T st tx (evo T st x) (evo T st y))
  | .convert s t x=>if s=t then fin d (jPs T st t (evo T st x)) else jMt st d (opR T (evo T st) (lkr T st.rt) (.convert s t x))
  | .build t ps=>fin d (jPy T st d t (ps.toList.map fun q=>(q.1,evo T st q.2)))
  | .assign x=>jSn T st d (evo T st x)
  |op=>jMt st d (opR T (evo T st) (lkr T st.rt) op)) else none
section
variable {T:Tb}{c c' c'':Cf}{n:Nat}{act:Act}
theorem Ar.put (h:Ar n c act) {d:Nat}(hd:d<n) {v:Value}(B:c'.a=upd c.a d v):Ar n c' (act.put (some d) v):=by
 refine⟨by show(act.tmps.setIfInBounds d v).size=n;rw[Array.size_setIfInBounds,h.size],fun t=>?_,h.nod⟩;show(act.tmps.setIfInBounds d v).getD t undef=_;rw[B,Array.getD_eq_getD_getElem?];unfold upd
 by_cases e:t=d
 .rw[if_pos e,e,Array.getElem?_setIfInBounds_self_of_lt (by rw[h.size];exact hd)];rfl
 .rw[if_neg e,Array.getElem?_setIfInBounds_ne (fun e'=>e e'.symm),<-Array.getD_eq_getD_getElem?];exact h.at' t
theorem Ar.same (h:Ar n c act) (B:c'.a=c.a):Ar n c' act:=⟨h.size,fun t=>by rw[B];exact h.at' t,h.nod⟩
def Nx (T:Tb) (n:Nat) (c:Cf) (st':St) (K:Act->World->Prop):Prop:=∀c' act',Ok T c'->Stp T c c'->c'.st=st'->c'.X=c.X->Ar n c' act'->K act' c'.w
theorem jKQ (B:Ar n c act) {o:Oper}{d:Nat}(hd:o.dst=some d) (E:d<n) {v:Av}{st1 st':St}(hf:fin d (some (v,st1))=some st') {K:Act->World->Prop}{Q:Exit->Act->World->Prop}(G:Nx T n c st' K) (h:∃c1 v',Ok T c1/\Stp T c c1/\c1.st=st1/\c1.a=c.a/\c1.X=c.X/\(execOp act.eval o).run T.P c.w= .ok (.value v') c1.w/\TV c1.w c1.A c1.mo c1.fp v v'):o.wp T.P act c.w K Q:=by
 obtain⟨c1,v',J,h2,M,O,V,Y,Z⟩:=h;cases hf;obtain⟨p1,p2⟩:=J.put (d:=d) Z;unfold Oper.wp;rw[Y,Oper.upon_value,hd];refine G {c1 with st:=⟨upT c1.st.tm d v,c1.st.rt⟩,a:=upd c1.a d v'} (act.put (some d) v') p1 (h2.trans p2) ?_ V (B.put E (by show upd c1.a d v'=_;rw[O]));show(⟨upT c1.st.tm d v,c1.st.rt⟩:St)=_;rw[M]
theorem Ok.bld (G:Ok T c) {d:Nat}{t:TypeId}{ps:Array (Nat × Operand)}{lk:Operand->Av}{rc:Operand->Value}(hp:∀x,TV c.w c.A c.mo c.fp (lk x) (rc x)) {v:Av}{st':St}(h:jPy T c.st d t (ps.toList.map fun q=>(q.1,lk q.2))=some (v,st')):∃c1 v',Ok T c1/\Stp T c c1/\c1.st=st'/\c1.a=c.a/\c1.X=c.X/\(Instr.build t (ps.map fun q=>(q.1,rc q.2))).run T.P c.w= .ok v' c1.w/\TV c1.w c1.A c1.mo c1.fp v v':=by
 unfold jPy at h
 split at h
 .rename_i l hb
  cases h;rw[List.map_map]at hb;obtain⟨arr,h1,h2⟩:=jT3 (ps:=ps) (lk:=lk) (rc:=rc) (fun q _=>hp q.2) hb;exact⟨c,_,G,Stp.refl c,rfl,rfl,rfl,h1,arr,rfl,h2⟩
 .split at h
  .rename_i f p r hr
   split at h
   .rename_i l1 st1 ht
    split at h
    .rename_i l hb
     have M:=congrArg List.reverse hr;rw[List.reverse_reverse,List.reverse_cons]at M;obtain⟨a,b,O,ha,Y⟩:=List.map_eq_append_iff.1 M;obtain⟨⟨f',x⟩,V,B⟩:=List.map_eq_singleton_iff.1 Y;subst V;simp only[Prod.mk.injEq]at B;obtain⟨rfl,hx⟩:=B;have E:=hp x;rw[hx]at E;obtain⟨mo',fp',Fs,us,Z,h3,k2,k3,k4⟩:=G.takeP ht;have:=E c.w (jJQ _ _);rw[k4]at this;cases this
     have J:(rc x).cells=#[rc x]:=by
      cases k2 with
      |cons q1 q2=>have:=q1.one;generalize rc x=u at this ⊢;cases u <;> first|rfl|cases this
     have h4:RL c.w c.A l1 (rc x).cells.toList Fs:=by rw[J];exact k2
     rw[<-ha,List.map_map]at hb
     obtain⟨arr,g1,g2⟩:=jT4 (T:=T) (ps:=ps) (rc:=rc) (F:=Fs) (fun place cells arr hcl hf=>by
      rw[O]
      exact jTB place (lk:=lk) (mo:=c.mo) (fp:=c.fp) h4 a cells l arr (fun q _=>hp q.2) hcl hf) hb
     obtain⟨h6,h5,m1,m2,m3⟩:=Z.mkAgg (Fs:=Fs) (X0:=c.X) (fun g hg=>List.mem_append_left _ hg) Z.sx.nd (fun g hg=>List.mem_append_right _ hg) g2 h;exact⟨_,_,m1,h3.trans m2,rfl,rfl,rfl,g1,m3⟩
    .cases h
   .cases h
  .cases h
theorem step_ok (hc:Ok T c) (B:Ar n c act) {fz:List Nat}{o:Oper}{st':St}(h:jKG T n fz c.st o=some st') {K:Act->World->Prop}{Q:Exit->Act->World->Prop}(hK:Nx T n c st' K):o.wp T.P act c.w K Q:=by
 have G:=fun x=>hc.op B.at' x;unfold jKG at h
 split at h
 .rename_i hd
  split at h
  .rename_i t ao x ho
   obtain⟨E,M,h2,O,V,Y,Z⟩:=hc.store (G x) (fun E hc1 he=>hc1.op (act:=act) (fun t=>by rw[he];exact B.at' t) ao) h;unfold Oper.wp;have:(execOp act.eval o).run T.P c.w= .ok .skip E.w:=by simp[execOp,ho,Z]
   rw[this,Oper.upon_skip,hd];exact hK E act M h2 O Y (B.same V)
  .cases h
 .rename_i d hd
  split at h
  .rename_i hdn
   have sp:∀{r:Option (Av × St)},fin d r=some st'->∃v st1,r=some (v,st1):=fun {r} hr=>by
    cases r with
    |none=>cases hr
    |some q=>exact⟨q.1,q.2,rfl⟩
   split at h
   .rename_i t ho
    obtain⟨v,st1,e⟩:=sp h;obtain⟨E,J,M,h2,O,V,Y,Z,h7⟩:=hc.alloc e;rw[e]at h;exact jKQ B hd hdn h hK ⟨E,J,M,h2,O,V,Y,Z _ _ ho,h7⟩
   .rename_i t x ho
    obtain⟨v,st1,e⟩:=sp h;obtain⟨E,J,M,h2,O,V,Y,Z,h7⟩:=hc.box (t:=t) (G x) e;rw[e]at h;exact jKQ B hd hdn h hK ⟨E,J,M,h2,O,V,Y,by simp[execOp,ho,Z],h7⟩
   .rename_i t k ps ho
    obtain⟨v,st1,e⟩:=sp h;obtain⟨E,J,M,h2,O,V,Y,Z,h7⟩:=hc.bs (rc:=act.eval) (fun q _=>G q.2) e;rw[e]at h;exact jKQ B hd hdn h hK ⟨E,J,M,h2,O,V,Y,by simp[execOp,ho,Z],h7⟩
   .rename_i t l cp ho
    obtain⟨v,st1,e⟩:=sp h;obtain⟨E,J,M,h2,O,V,Y,Z,h7⟩:=hc.make (G l) (G cp) e;rw[e]at h;exact jKQ B hd hdn h hK ⟨E,J,M,h2,O,V,Y,by simp[execOp,ho,Z],h7⟩
   .rename_i s x ts tx ho
    split at h
    .rename_i hone
     obtain⟨v,st1,e⟩:=sp h;obtain⟨E,J,M,h2,O,V,Y,Z,h7⟩:=hc.app (ty:=o.type) (G s) hone (fun E hc1 he=>hc1.op (act:=act) (fun t=>by rw[he];exact B.at' t) x) e;rw[e]at h;exact jKQ B hd hdn h hK ⟨E,J,M,h2,O,V,Y,by simp[execOp,ho,resolve,invoke,builtin,Z] <;> exact rfl,h7⟩
    .cases h
   .rename_i x y tx ty ho
    obtain⟨v,st1,e⟩:=sp h;obtain⟨E,J,M,h2,O,V,Y,Z,h7⟩:=hc.cpy (ts:=ty) (ty:=o.type) (G x) (G y) e;rw[e]at h;exact jKQ B hd hdn h hK ⟨E,J,M,h2,O,V,Y,by simp[execOp,ho,resolve,invoke,builtin,Z] <;> exact rfl,h7⟩
   .rename_i s t x ho
    split at h
    .rename_i hst
     subst hst;obtain⟨v,st1,e⟩:=sp h;obtain⟨E,J,M,h2,O,V,Y,Z,h7⟩:=hc.sam (G x) e;rw[e]at h;exact jKQ B hd hdn h hK ⟨E,J,M,h2,O,V,Y,by simp[execOp,ho,Z],h7⟩
    .rw[<-ho]at h
     cases hr :opR T (evo T c.st) (lkr T c.st.rt) o.op with
     |none=>rw[hr]at h;cases h
     |some v=>
      rw[hr]at h;obtain⟨J,r1,r2⟩:=jSm hc.sx.sr (rc:=act.eval) (fun x _=>G x) hr;cases h;exact jKQ (st1:=c.st) (v:=v) B hd hdn rfl hK ⟨c,J,hc,Stp.refl c,rfl,rfl,rfl,r1,r2⟩
   .rename_i t ps ho
    obtain⟨v,st1,e⟩:=sp h;obtain⟨E,J,M,h2,O,V,Y,Z,h7⟩:=hc.bld (rc:=act.eval) (fun x=>G x) e;rw[e]at h;exact jKQ B hd hdn h hK ⟨E,J,M,h2,O,V,Y,by simp[execOp,ho,Z],h7⟩
   .rename_i x ho
    have hx:=G x
    have pl:∀{y:Av},evo T c.st x=y->jMt c.st d (some y)=some st'->o.wp T.P act c.w K Q:=fun {y} e hp=>by
     rw[e]at hx;cases hp;exact jKQ (st1:=c.st) (v:=y) B hd hdn rfl hK ⟨c,act.eval x,hc,Stp.refl c,rfl,rfl,rfl,by simp[execOp,ho],hx⟩
    unfold jSn at h
    split at h
    .rename_i p hp
     split at h
     .split at h
      .rename_i cl st1 ht
       rw[hp]at hx;obtain⟨v,k4,e⟩:=sp h;obtain⟨k2,h9,Fs,a1,a2,a3,a4⟩:=hc.takeV hx ht;rw[a4 rfl]at a3;obtain⟨_,e',h8⟩:=RL.one1 a3;cases e';obtain⟨k3,k1,m1,m2,m3⟩:=a1.mkVal (Fs:=Fs) (X0:=c.X) (fun g hg=>List.mem_append_left _ hg) a1.sx.nd (fun g hg=>List.mem_append_right _ hg) h8 e;rw[e]at h;exact jKQ B hd hdn h hK ⟨_,act.eval x,m1,a2.trans m2,rfl,rfl,rfl,by simp[execOp,ho],m3⟩
      .cases h
     .exact pl hp h
    .rename_i hne
     exact pl rfl h
   .cases hr :opR T (evo T c.st) (lkr T c.st.rt) o.op with
    |none=>rw[hr]at h;cases h
    |some v=>
     rw[hr]at h;obtain⟨J,r1,r2⟩:=jSm hc.sx.sr (rc:=act.eval) (fun x _=>G x) hr;cases h;exact jKQ (st1:=c.st) (v:=v) B hd hdn rfl hK ⟨c,J,hc,Stp.refl c,rfl,rfl,rfl,r1,r2⟩
  .cases h
end
inductive Arg where
 |pl (x:Av)
 |ow (l:List C) (one:Bool)
 |rv (l:List C) (one:Bool)
 |bp (l:List C)
 |br (l:List C)
def loc (k o:Nat) (l:List C) (one:Bool):Av:=if one then .lo ⟨k,o,[]⟩ else .la ⟨k,o,[]⟩ l.length
def jNy (i:Nat):Arg->Av
 | .pl x=>x
 | .ow l one=>loc i 0 l one
 | .rv l one=>loc i 0 l one
 | .bp _=>.pa ⟨i,0,[]⟩
 | .br _=>.pa ⟨i,0,[]⟩
def jKL:Arg->Option Rt
 | .pl _=>none
 | .ow l _=>some ⟨2,l⟩
 | .rv l _=>some ⟨4,l⟩
 | .bp l=>some ⟨0,l⟩
 | .br l=>some ⟨3,l⟩
def jJ1:Nat->List Arg->List (Nat × Av)
 |_,[]=>[]
 |i,x ::l=>(i,jNy i x) ::jJ1 (i+1) l
def jKb:Nat->List Arg->List (Nat × Rt)
 |_,[]=>[]
 |i,x ::l=>match jKL x with
  |some R=>(i,R) ::jKb (i+1) l
  |none=>jKb (i+1) l
def entry (as:List Arg):St:=⟨jJ1 0 as,jKb 0 as⟩
theorem jNd:∀(as:List Arg) (i t:Nat),lkt (jJ1 i as) t=if i<=t then(match as[t-i]? with|some x=>jNy t x|none=>.u) else .u
 |[],i,t=>by simp[jJ1,lkt]
 |x ::l,i,t=>by
  simp only[jJ1,lkt];rw[jNd l (i+1) t]
  by_cases h:i=t
  .subst h
   simp
  .rw[if_neg h]
   by_cases B:i<=t
   .rw[if_pos B,if_pos (by omega),show t-i=(t-(i+1))+1 by omega,List.getElem?_cons_succ]
   .rw[if_neg B,if_neg (by omega)]
theorem jN7 (T:Tb):∀(as:List Arg) (i k:Nat),i+as.length<=1000000->lkr T (jKb i as) k=if i<=k/\k<i+as.length then(match as[k-i]? with|some x=>jKL x|none=>none) else(match T.gl k with|some cs=>some ⟨3,cs⟩|none=>none)
 |[],i,k,_=>by
  rw[if_neg (by intro h;have:=h.2;simp only[List.length_nil]at this;omega)];rfl
 |x ::l,i,k,hl=>by
  rw[List.length_cons]at hl ⊢;have ih:=jN7 T l (i+1) k (by omega)
  have hx:∀{y:Option Rt},lkr T (jKb i (x ::l)) k=y↔(match jKL x with|some R=>(if i=k then some R else lkr T (jKb (i+1) l) k)|none=>lkr T (jKb (i+1) l) k)=y:=by
   intro y;simp only[jKb];cases jKL x <;> rfl
  rw[hx,ih]
  by_cases h:i=k
  .subst h
   rw[if_neg (by omega),if_pos (by omega),Nat.sub_self,List.getElem?_cons_zero];simp only
   cases hr :jKL x with
   |some R=>simp
   |none=>
    simp only;rw[T.gl0 i (by omega)]
  .have e:(match jKL x with|some R=>(if i=k then some R else(if i+1<=k/\k<i+1+l.length then(match l[k-(i+1)]? with|some x=>jKL x|none=>none) else(match T.gl k with|some cs=>some ⟨3,cs⟩|none=>none)))|none=>(if i+1<=k/\k<i+1+l.length then(match l[k-(i+1)]? with|some x=>jKL x|none=>none) else(match T.gl k with|some cs=>some ⟨3,cs⟩|none=>none)))=(if i+1<=k/\k<i+1+l.length then(match l[k-(i+1)]? with|some x=>jKL x|none=>none) else(match T.gl k with|some cs=>some ⟨3,cs⟩|none=>none)):=by
    cases jKL x <;> simp[h]
   rw[e]
   by_cases B:i<=k/\k<i+(l.length+1)
   .rw[if_pos B,if_pos (by omega),show k-i=(k-(i+1))+1 by omega,List.getElem?_cons_succ]
   .rw[if_neg B,if_neg (by omega)]
def jKg:Av->Bool
 | .c _=>true
 | .ag _=>true
 | .nl=>true
 | .ev _ _=>true
 | .u=>true
 |_=>false
def jKP:Arg->Bool
 | .ow _ _=>true
 | .bp _=>true
 |_=>false
def AD (Z:Mo->Prop) (w:World) (A:Nat->Prop) (x:Arg) (u:Value) (m:Mo) (F:List Nat):Prop:=match x with
 | .pl y=>(∀mo fp,Z (mo 0)->TV w A mo fp y u)/\F=[]
 | .ow l one=>RL w A l m.vs F/\(if one then m.vs=[u] else ∃arr:Array Value,u= .agg arr/\m.vs=arr.toList)
 | .rv l one=>RL w A l m.vs F/\(if one then m.vs=[u] else ∃arr:Array Value,u= .agg arr/\m.vs=arr.toList)
 | .bp l=>∃F',F=m.k ::F'/\Lie true w A m.k m.o l F' m.a0 m.ty m.fz/\m.vs=(m.a0.toList.drop m.o).take l.length/\u= .pointer (some ⟨m.k,m.o,none⟩)
 | .br l=>∃F',F=m.k ::F'/\Lie false w A m.k m.o l F' m.a0 m.ty m.fz/\m.vs=(m.a0.toList.drop m.o).take l.length/\u= .pointer (some ⟨m.k,m.o,none⟩)
section
variable {T:Tb}{c c' c'':Cf}
theorem jYW (V:Ok T c) {as:List Arg}(hn:as.length<=1000) {a:Nat->Value}{m:Nat->Mo}{F:Nat->List Nat}(hu:∀t,as.length<=t->a t=undef)
 {Z:Mo->Prop}(hZ:Z (if 0<as.length then m 0 else c.mo 0)) (O:∀i x,as[i]? =some x->AD Z c.w c.A x (a i) (m i) (F i)) (k2:∀i x,as[i]? =some x->(F i).Nodup) (h8:∀i x,as[i]? =some x->jKP x=true->∀g ∈ F i,¬c.A g)
 (h7:∀i j x y,i≠j->as[i]? =some x->as[j]? =some y->jKP x=true->∀g ∈ F i,g ∉ F j) (h6:∀i x k,as[i]? =some x->jKP x=true->1000000<=k->∀g ∈ F i,g ∉ c.fp k)
 (P:∀k,1000000<=k->lkr T c.st.rt k=match T.gl k with|some cs=>some ⟨3,cs⟩|none=>none) :
 ∃cc:Cf,Ok T cc/\cc.w=c.w/\cc.A=c.A/\cc.st=entry as/\cc.X=[]/\cc.a=a/\(∀i x,as[i]? =some x->cc.mo i=m i/\cc.fp i=F i):=by
 have k1:∀k,lkr T (jKb 0 as) k=if k<as.length then(match as[k]? with|some x=>jKL x|none=>none) else(match T.gl k with|some cs=>some ⟨3,cs⟩|none=>none):=fun k=>by
  rw[jN7 T as 0 k (by omega)]
  by_cases h:k<as.length
  .rw[if_pos (by omega),if_pos h,Nat.sub_zero]
  .rw[if_neg (by omega),if_neg h]
 have J:∀k R,lkr T (jKb 0 as) k=some R->(∃x,as[k]? =some x/\jKL x=some R)\/(1000000<=k/\∃cs,T.gl k=some cs/\R=⟨3,cs⟩):=fun k R h=>by
  rw[k1]at h
  split at h
  .split at h
   .rename_i x hx;exact .inl ⟨x,hx,h⟩
   .cases h
  .split at h
   .rename_i cs E
    cases h;refine .inr ⟨?_,cs,E,rfl⟩;rcases Nat.lt_or_ge k 1000000 with h|h
    .rw[T.gl0 k h]at E;cases E
    .exact h
   .cases h
 have h5:∀x R,jKL x=some R->own R=jKP x:=fun x R h=>by
  cases x <;> cases h <;> rfl
 refine⟨⟨c.w,c.A,entry as,fun k=>if k<as.length then m k else c.mo k,fun k=>if k<as.length then F k else if 1000000<=k then c.fp k else[],a,[]⟩,⟨⟨⟨fun k R hR=>?_,fun k R hR=>?_,fun k R hR ho g hg=>?_,fun k k' R R' hne hR hR' ho g hg=>?_,fun t=>?_,fun k hk=>?_,fun g cs h=>?_⟩,List.nodup_nil,fun g hg=>(by cases hg),fun g hg=>(by cases hg),fun g hg=>(by cases hg)⟩,V.al⟩,rfl,rfl,rfl,rfl,rfl,fun i x hx=>?_⟩
 .rcases J k R hR with⟨x,hx,hr⟩|⟨hk,cs,E,rfl⟩
  .have B:=(List.getElem?_eq_some_iff.1 hx).1
   simp only[B,if_true];have h:=O k x hx
   cases x with
   |pl y=>cases hr
   |ow l one=>
    cases hr;unfold jJM;rw[if_neg (by simp),if_pos (by simp[isV])];exact h.1
   |rv l one=>
    cases hr;unfold jJM;rw[if_neg (by simp),if_pos (by simp[isV])];exact h.1
   |bp l=>
    cases hr;obtain⟨F',M,h2,Y,h4⟩:=h;unfold jJM;rw[if_neg (by simp),if_neg (by simp[isV])];exact⟨F',(m k).a0,M,h2,Y,rfl,fun _ _=>rfl,fun h=>by simp at h⟩
   |br l=>
    cases hr;obtain⟨F',M,h2,Y,h4⟩:=h;unfold jJM;rw[if_neg (by simp),if_neg (by simp[isV])];exact⟨F',(m k).a0,M,h2,Y,rfl,fun _ _=>rfl,fun h=>by simp at h⟩
  .simp only[show ¬k<as.length by omega,if_false,hk,if_true]
   exact V.sx.sr.rts k _ ((P k hk).trans (by rw[E]))
 .rcases J k R hR with⟨x,hx,hr⟩|⟨hk,cs,E,rfl⟩
  .have B:=(List.getElem?_eq_some_iff.1 hx).1
   simp only[B,if_true];exact k2 k x hx
  .simp only[show ¬k<as.length by omega,if_false,hk,if_true]
   exact V.sx.sr.nd k _ ((P k hk).trans (by rw[E]))
 .rcases J k R hR with⟨x,hx,hr⟩|⟨hk,cs,E,rfl⟩
  .have B:=(List.getElem?_eq_some_iff.1 hx).1
   simp only[B,if_true]at hg;exact h8 k x hx (by rw[<-h5 x R hr];exact ho) g hg
  .cases ho
 .rcases J k R hR with⟨x,hx,hr⟩|⟨hk,cs,E,rfl⟩
  .have B:=(List.getElem?_eq_some_iff.1 hx).1
   simp only[B,if_true]at hg;have k3:jKP x=true:=by rw[<-h5 x R hr];exact ho
   rcases J k' R' hR' with⟨y,hy,k4⟩|⟨h9,cs,E,rfl⟩
   .have hlt':=(List.getElem?_eq_some_iff.1 hy).1
    simp only[hlt',if_true];exact h7 k k' x y hne hx hy k3 g hg
   .simp only[show ¬k'<as.length by omega,if_false,h9,if_true]
    exact h6 k x k' hx k3 h9 g hg
  .cases ho
 .show TV c.w c.A _ _ (lkt (jJ1 0 as) t) (a t)
  rw[jNd];simp only[Nat.zero_le,if_true,Nat.sub_zero]
  cases hx :as[t]? with
  |none=>trivial
  |some x=>
   have B:=(List.getElem?_eq_some_iff.1 hx).1;have h:=O t x hx
   have val:∀{l:List C}{one:Bool}{G:List Nat},RL c.w c.A l (m t).vs G->(if one then(m t).vs=[a t] else ∃arr:Array Value,a t= .agg arr/\(m t).vs=arr.toList)->TV c.w c.A (fun k=>if k<as.length then m k else c.mo k) (fun k=>if k<as.length then F k else if 1000000<=k then c.fp k else[]) (loc t 0 l one) (a t):=by
    intro l one G M h2;unfold loc
    cases one with
    |true=>
     simp only[if_true]at h2 ⊢;intro w' _;simp only[vls,B,if_true];rw[h2];rfl
    |false=>
     simp only[Bool.false_eq_true,if_false]at h2 ⊢;obtain⟨arr,e1,e2⟩:=h2;have hl:=M.len;refine⟨arr,e1,by rw[e2]at hl;simpa using hl.symm,fun w' _=>?_⟩;simp only[vls,B,if_true];rw[if_pos (by omega),List.drop_zero,hl,List.take_length,e2]
   cases x with
   |pl y=>exact h.1 _ _ hZ
   |ow l one=>exact val h.1 h.2
   |rv l one=>exact val h.1 h.2
   |bp l=>
    obtain⟨F',M,h2,Y,h4⟩:=h;exact⟨(m t).k,(m t).o,fun w' _=>by simp only[ad,B,if_true,Nat.add_zero],h4⟩
   |br l=>
    obtain⟨F',M,h2,Y,h4⟩:=h;exact⟨(m t).k,(m t).o,fun w' _=>by simp only[ad,B,if_true,Nat.add_zero],h4⟩
 .have hk:lkr T (jKb 0 as) k=none:=hk
  rw[k1]at hk
  by_cases M:k<as.length
  .simp only[M,if_true]at hk ⊢
   have hx:as[k]? =some as[k]:=List.getElem?_eq_getElem M;rw[hx]at hk;simp only at hk;have h:=O k _ hx
   cases hy :as[k] with
   |pl y=>rw[hy]at h;exact h.2
   |_=>rw[hy]at hk;cases hk
  .simp only[M,if_false]at hk ⊢
   by_cases h2:1000000<=k
   .simp only[h2,if_true]
    exact V.sx.sr.nf k ((P k h2).trans hk)
   .simp only[h2,if_false]
 .have:¬1000000+g<as.length:=by omega
  simp only[this,if_false];exact V.sx.sr.gl g cs h
 .have B:=(List.getElem?_eq_some_iff.1 hx).1
  simp only[B,if_true];exact⟨trivial,trivial⟩
end
def RK:Nat:=900000
def Jr (k:Nat):Nat->List Arg->List Av
 |_,[]=>[]
 |o,.ow l one ::rs=>loc k o l one ::Jr k (o+l.length) rs
 |o,.pl x ::rs=>x ::Jr k o rs
 |o,_ ::rs=>.u ::Jr k o rs
def jK5:List Arg->List C
 |[]=>[]
 | .ow l _ ::rs=>l ++jK5 rs
 |_ ::rs=>jK5 rs
def jKe (k:Nat) (rs:List Arg):Av:=match Jr k 0 rs with
 |[x]=>x
 |l=>.tp l
def jKw:List Arg->Bool
 |[]=>false
 | .ow _ _ ::_=>true
 |_ ::rs=>jKw rs
def bpR:Nat->List Arg->List (List C)->List (Nat × Rt)
 |i,.bp _ ::as,b ::bs=>(i,⟨0,b⟩) ::bpR (i+1) as bs
 |i,_ ::as,bs=>bpR (i+1) as bs
 |_,[],_=>[]
def jKl (as rs:List Arg) (bs:List (List C)):St:=⟨[(RK,jKe RK rs)],bpR 0 as bs ++(if jKw rs then[(RK,⟨2,jK5 rs⟩)] else[])⟩
structure jRb (P:Program) (f:Nat):Prop where
 ex:∃fn,P.funcs[f]? =some fn/\fn.body.isSome=true/\(fn.name == "runtime.NumGoroutine")=false
def Does (T:Tb) (f:Nat) (as rs:List Arg) (bs:List (List C)):Prop:=jRb T.P f/\∀c:Cf,Ok T c->c.st=entry as->c.X=[]->(∀t,as.length<=t->c.a t=undef)->Calls T.P f ((List.range as.length).map c.a).toArray c.w fun e w'=>∃c' v,e= .returned v/\c'.w=w'/\Ok T c'/\Stp T c c'/\c'.st=jKl as rs bs/\c'.X=[]/\c'.a RK=v
abbrev Qs:=List (Operand × Nat × TypeId)
def take1 (T:Tb) (st:St):Qs->Option (List C × Bool × St)
 |[]=>some ([],false,st)
 |(x,m,_) ::qs=>if m=1 then(if qs.all (fun q=>q.2.1 != 1) then match takeV T st (evo T st x) with
  |some (l,st')=>some (l,jLr (evo T st x),st')
  |none=>none else none) else take1 T st qs
def nlz (T:Tb) (t:TypeId):Av->Av
 | .nl=>.c (.r false (T.ti (T.ti t).el).sz [])
 |x=>x
def bxz (T:Tb) (t:TypeId):Nat:=if(T.ti t).kd=7 then(T.ti (T.ti t).el).sz else(T.ti t).sz
def jKU (T:Tb) (st:St) (ow:List C × Bool) (q:Operand × Nat × TypeId):Option Arg:=match q.2.1 with
 |0=>if jKg (evo T st q.1) then some (.pl (nlz T q.2.2 (evo T st q.1))) else none
 |1=>some (.ow ow.1 ow.2)
 |2=>match evo T st q.1 with
  | .lo p=>match gP (lkr T st.rt) p 1 with
    |some l=>some (.rv l true)
    |none=>none
  | .la p n=>match gP (lkr T st.rt) p n with
    |some l=>some (.rv l false)
    |none=>none
  | .c x=>some (.rv [x] true)
  | .ag l=>some (.rv l false)
  |_=>none
 |3=>match evo T st q.1 with
  | .pa p=>if inM (lkr T st.rt) p then match gP (lkr T st.rt) p (bxz T q.2.2) with
   |some l=>some (.bp l)
   |none=>none
    else none
  |_=>none
 |4=>match evo T st q.1 with
  | .pa p=>if inM (lkr T st.rt) p then match gP (lkr T st.rt) p (bxz T q.2.2) with
   |some l=>some (.br l)
   |none=>none
    else none
  |_=>none
 |5=>match evo T st q.1 with
  | .pa ⟨_,o,[h]⟩=>some (.pl (.pa ⟨0,o,[h]⟩))
  | .pa p=>if inM (lkr T st.rt) p then match gP (lkr T st.rt) p (bxz T q.2.2) with
   |some l=>some (.br l)
   |none=>none
    else none
  |_=>none
 |_=>none
def alA:Av->Option (Nat × Nat × Nat × Nat × Nat)
 | .pa ⟨r,o,[h]⟩=>some (r,o,h)
 |_=>none
def jMb (T:Tb) (st:St) (ow:List C × Bool):Qs->Option (List Arg)
 |[]=>some []
 |q ::qs=>match jKU T st ow q with
  |some x=>match jMb T st ow qs with
   |some l=>some (x ::l)
   |none=>none
  |none=>none
def jMW:Av->Option Nat
 | .lo p=>some p.r
 | .la p _=>some p.r
 | .pa p=>some p.r
 |_=>none
def jNU (T:Tb) (st:St) (r:Nat):Bool:=match lkr T st.rt r with
 |some R=>own R
 |none=>false
def bpP (T:Tb) (st:St):Qs->Option (Option Pth)
 |[]=>some none
 |(x,m,_) ::qs=>if m=3 then(match evo T st x with
  | .pa p=>if qs.all (fun q=>q.2.1 != 3) && jNU T st p.r then some (some p) else none
  |_=>none) else bpP T st qs
def jUi (T:Tb) (st:St) (r:Nat) (qs:Qs):Bool:=qs.all fun q=>q.2.1 == 0 || q.2.1 == 1 || q.2.1 == 3 || (q.2.1 == 5 && (alA (evo T st q.1)).isSome) || (match jMW (evo T st q.1)with|some k=>k != r|none=>true)
def jLb (st:St):Bool:=st.rt.all fun q=>Nat.blt q.1 1000000
def jUd (T:Tb) (st:St) (bp:Option Pth) (bs:List (List C)):Option St:=match bp,bs with
 |none,[]=>some st
 |some p,[b]=>setP T st p b
 |_,_=>none
def jNR (T:Tb) (n:Nat) (st:St) (d:Option Nat) (rs:List Arg):Option St:=match d with
 |none=>some st
 |some d=>if d<n then(if jKw rs then(if okD T st d then some ⟨upT (jKs d st.tm) d (jKe d rs),upR st.rt d ⟨2,jK5 rs⟩⟩ else none) else some ⟨upT st.tm d (jKe d rs),st.rt⟩) else none
theorem jLG {T:Tb}:∀{l:List (Nat × Rt)},(l.all fun q=>Nat.blt q.1 1000000)=true->∀k,1000000<=k->lkr T l k=match T.gl k with|some cs=>some ⟨3,cs⟩|none=>none
 |[],_,k,_=>rfl
 |(j,R) ::l,h,k,hk=>by
  rw[List.all_cons,Bool.and_eq_true]at h;have:=Nat.le_of_ble_eq_true h.1;simp only[lkr];rw[if_neg (by omega)];exact jLG h.2 k hk
section
variable {T:Tb}{c c' c'':Cf}
theorem jQ0 {st:St}{ow:List C × Bool}:∀{qs:Qs}{as:List Arg},jMb T st ow qs=some as->as.length=qs.length/\∀(i:Nat) (x:Arg),as[i]? =some x->∃q,qs[i]? =some q/\jKU T st ow q=some x
 |[],as,h=>by cases h;exact⟨rfl,fun i x h=>by simp at h⟩
 |q ::qs,as,h=>by
  simp only[jMb]at h
  split at h
  .rename_i x hx
   split at h
   .rename_i l hl
    cases h;obtain⟨B,h2⟩:=jQ0 hl;refine⟨by simp[B],fun i y hy=>?_⟩
    cases i with
    |zero=>simp at hy;subst hy;exact⟨q,rfl,hx⟩
    |succ i=>exact h2 i y (by simpa using hy)
   .cases h
  .cases h
theorem jWR {w:World}{A:Nat->Prop}{t:TypeId}{x:Av}{u:Value}{mo:Nat->Mo}{fp:Nat->List Nat}(h:jKg x=true) (hx:TV w A mo fp x u):jKg (nlz T t x)=true/\∀mo' fp',TV w A mo' fp' (nlz T t x) u:=by
 cases x with
 |c y=>exact⟨rfl,fun _ _=>hx⟩
 |ag l=>exact⟨rfl,fun _ _=>hx⟩
 |nl=>
  have hx:u= .slice none 0 0:=hx;subst hx;exact⟨rfl,fun _ _=>RC.rn _ _⟩
 |ev l o=>exact⟨rfl,fun _ _=>hx⟩
 |u=>exact⟨rfl,fun _ _=>trivial⟩
 |_=>cases h
theorem jRD (E:Ok T c) {act:Act}(ha:∀t,act.tmps.getD t undef=c.a t):∀{qs:Qs}{l:List C}{one:Bool}{st1:St},take1 T c.st qs=some (l,one,st1)->∃mo1 fp1 Fs,Ok T ⟨c.w,c.A,st1,mo1,fp1,c.a,Fs ++c.X⟩/\Stp T c ⟨c.w,c.A,st1,mo1,fp1,c.a,Fs ++c.X⟩/\((∀q ∈ qs,q.2.1≠1)/\Fs=[]\/∃(i:Nat) (q:Operand × Nat × TypeId),qs[i]? =some q/\q.2.1=1/\(∀(j:Nat) (q':Operand × Nat × TypeId),qs[j]? =some q'->q'.2.1=1->j=i)/\RL c.w c.A l (act.eval q.1).cells.toList Fs/\(one=true->(act.eval q.1).cells=#[act.eval q.1])/\(one=false->∃arr,act.eval q.1= .agg arr))
 |[],l,one,st1,h=>by
  cases h;exact⟨c.mo,c.fp,[],E,Stp.refl c,.inl ⟨fun q G=>(by cases G),rfl⟩⟩
 |(x,m,t) ::qs,l,one,st1,h=>by
  simp only[take1]at h
  split at h
  .rename_i hm
   split at h
   .rename_i hall
    split at h
    .rename_i l' st' ht
     cases h;have hx:=E.op ha x;obtain⟨mo1,fp1,Fs,J,a2,a3,a4⟩:=E.takeV hx ht;refine⟨mo1,fp1,Fs,J,a2,.inr ⟨0,(x,m,t),rfl,hm,fun j q' hj hq'=>?_,a3,a4,fun B=>?_⟩⟩
     .cases j with
      |zero=>rfl
      |succ j=>
       have:=List.all_eq_true.1 hall q' (List.mem_of_getElem? (by simpa using hj));simp[hq']at this
     .cases hv :evo T c.st x with
      |ag l=>rw[hv]at hx;obtain⟨arr,e,_⟩:=hx;exact⟨arr,e⟩
      |la p n=>rw[hv]at hx;obtain⟨arr,e,_⟩:=hx;exact⟨arr,e⟩
      |_=>rw[hv]at B;cases B
    .cases h
   .cases h
  .rename_i hm
   obtain⟨mo1,fp1,Fs,J,a2,a3⟩:=jRD E ha h;refine⟨mo1,fp1,Fs,J,a2,?_⟩
   rcases a3 with⟨B,h2⟩|⟨i,q,B,h2,M,O⟩
   .exact .inl ⟨fun q G=>(by rcases List.mem_cons.1 G with rfl|G;exact hm;exact B q G),h2⟩
   .refine .inr ⟨i+1,q,by simpa using B,h2,fun j q' hj hq'=>?_,O⟩
    cases j with
    |zero=>simp at hj;subst hj;exact absurd hq' hm
    |succ j=>rw[M j q' (by simpa using hj) hq']
end
section
variable {T:Tb}{c c' c'':Cf}
theorem jZT (J:Ok T c) {act:Act}(ha:∀t,act.tmps.getD t undef=c.a t) {Z:Mo->Prop}{ow:List C × Bool}{q:Operand × Nat × TypeId}{x:Arg}(h:jKU T c.st ow q=some x) (P:q.2.1≠1) (V:q.2.1≠3) (Y:q.2.1=5->∀r o k,alA (evo T c.st q.1)=some (r,o,k)->∀mo fp,Z (mo 0)->TV c.w c.A mo fp (.pa ⟨0,o,[k]⟩) (act.eval q.1)):jKP x=false/\∃m F,AD Z c.w c.A x (act.eval q.1) m F/\F.Nodup/\∀g ∈ F,(q.2.1=2\/q.2.1=4\/(q.2.1=5/\alA (evo T c.st q.1)=none))/\∃r,jMW (evo T c.st q.1)=some r/\g ∈ c.fp r:=by
 have hx:=J.op ha q.1
 obtain⟨m0⟩:Nonempty Mo:=⟨⟨0,0,[],#[],0,(0,0)⟩⟩
 unfold jKU at h
 split at h
 .split at h
  .rename_i hp
   cases h;obtain⟨E,G⟩:=jWR (T:=T) (t:=q.2.2) hp hx;exact⟨rfl,m0,[],⟨fun mo fp _=>G mo fp,rfl⟩,List.nodup_nil,fun g hg=>by cases hg⟩
  .cases h
 .rename_i hm;exact absurd hm P
 .rename_i hm
  split at h
  .rename_i p hv
   split at h
   .rename_i l hg
    cases h;rw[hv]at hx;obtain⟨us,Fs,q1,q2,q3,q4,⟨q5,_⟩,_⟩:=J.sx.sr.cells' hg;have e:=hx c.w (jJQ _ _);rw[q4 c.w (jJQ _ _)]at e;cases e;exact⟨rfl,{m0 with vs:=[act.eval q.1]},Fs,⟨q2,by simp⟩,q5,fun g hg=>⟨.inl hm,p.r,by rw[hv];rfl,q3 g hg⟩⟩
   .cases h
  .rename_i p n hv
   split at h
   .rename_i l hg
    cases h;rw[hv]at hx;obtain⟨us,Fs,q1,q2,q3,q4,⟨q5,_⟩,_⟩:=J.sx.sr.cells' hg;obtain⟨arr,E,G,e3⟩:=hx;have e:=e3 c.w (jJQ _ _);rw[q4 c.w (jJQ _ _)]at e;cases e;exact⟨rfl,{m0 with vs:=arr.toList},Fs,⟨q2,by simp only[Bool.false_eq_true,if_false];exact⟨arr,E,rfl⟩⟩,q5,fun g hg=>⟨.inl hm,p.r,by rw[hv];rfl,q3 g hg⟩⟩
   .cases h
  .rename_i y hv
   cases h;rw[hv]at hx;exact⟨rfl,{m0 with vs:=[act.eval q.1]},[],⟨.cons hx .nil,by simp⟩,List.nodup_nil,fun g hg=>by cases hg⟩
  .rename_i l hv
   cases h;rw[hv]at hx;obtain⟨arr,E,G⟩:=hx;exact⟨rfl,{m0 with vs:=arr.toList},[],⟨G,by simp only[Bool.false_eq_true,if_false];exact⟨arr,E,rfl⟩⟩,List.nodup_nil,fun g hg=>by cases hg⟩
  .cases h
 .rename_i hm;exact absurd hm V
 .rename_i hm
  split at h
  .rename_i p hv
   split at h
   .rename_i hin
    split at h
    .rename_i l hg
     cases h;rw[hv]at hx;obtain⟨us,Fs,q1,q2,q3,q4,⟨q5,B⟩,q6⟩:=J.sx.sr.cells' hg;obtain⟨g,o,arr,ty,fz,M,z2,z3,z4,z5,O⟩:=q6 hin;obtain⟨g',o',E,G⟩:=hx;have e:=E c.w (jJQ _ _);rw[M c.w (jJQ _ _)]at e;cases e;refine⟨rfl,⟨g,o,us,arr,ty,fz⟩,g ::Fs,⟨Fs,rfl,⟨z2,fun h=>(by cases h),by rw[B];exact z3,by rw[B,<-z4];exact q2⟩,by rw[B];exact z4,G⟩,List.nodup_cons.2 ⟨O,q5⟩,fun k hk=>⟨.inr (.inl hm),p.r,by rw[hv];rfl,?_⟩⟩;rcases List.mem_cons.1 hk with rfl|hk
     .exact z5
     .exact q3 k hk
    .cases h
   .cases h
  .cases h
 .rename_i hm
  split at h
  .rename_i r o k hv
   cases h;exact⟨rfl,m0,[],⟨Y hm r o k (by rw[hv];rfl),rfl⟩,List.nodup_nil,fun g hg=>by cases hg⟩
  .rename_i p hne hv
   have h4:alA (.pa p)=none:=by
    unfold alA
    split
    .rename_i r o k e
     cases e;exact absurd rfl (hne r o k)
    .rfl
   split at h
   .rename_i hin
    split at h
    .rename_i l hg
     cases h;rw[hv]at hx;obtain⟨us,Fs,q1,q2,q3,q4,⟨q5,B⟩,q6⟩:=J.sx.sr.cells' hg;obtain⟨g,o,arr,ty,fz,M,z2,z3,z4,z5,O⟩:=q6 hin;obtain⟨g',o',E,G⟩:=hx;have e:=E c.w (jJQ _ _);rw[M c.w (jJQ _ _)]at e;cases e;refine⟨rfl,⟨g,o,us,arr,ty,fz⟩,g ::Fs,⟨Fs,rfl,⟨z2,fun h=>(by cases h),by rw[B];exact z3,by rw[B,<-z4];exact q2⟩,by rw[B];exact z4,G⟩,List.nodup_cons.2 ⟨O,q5⟩,fun k hk=>⟨.inr (.inr ⟨hm,by rw[hv];exact h4⟩),p.r,by rw[hv];rfl,?_⟩⟩;rcases List.mem_cons.1 hk with rfl|hk
     .exact z5
     .exact q3 k hk
    .cases h
   .cases h
  .cases h
 .cases h
theorem jLB {w:World}{A:Nat->Prop}{mo mo':Nat->Mo}{fp fp':Nat->List Nat}{k k':Nat}:∀(rs:List Arg) (hm:∀l one,.ow l one ∈ rs->mo' k'=mo k) (o j:Nat) (x y:Av) (v:Value),(∀z,.pl z ∈ rs->jKg z=true)->(Jr k o rs)[j]? =some x->(Jr k' o rs)[j]? =some y->TV w A mo fp x v->TV w A mo' fp' y v
 |[],_,o,j,x,y,v,_,hx,_,_=>by simp[Jr]at hx
 |r ::rs,hm,o,j,x,y,v,hp,hx,hy,h=>by
  have B:∀l one,.ow l one ∈ rs->mo' k'=mo k:=fun l one h=>hm l one (List.mem_cons_of_mem _ h);have E:∀z,.pl z ∈ rs->jKg z=true:=fun z hz=>hp z (List.mem_cons_of_mem _ hz)
  cases r with
  |pl z=>
   cases j with
   |zero=>
    simp only[Jr,List.getElem?_cons_zero,Option.some.injEq]at hx hy;subst hx;subst hy;have:=hp z (List.mem_cons_self ..);cases z <;> first|exact h|cases this
   |succ j=>exact jLB rs B o j x y v E (by simpa[Jr] using hx) (by simpa[Jr] using hy) h
  |ow l one=>
   cases j with
   |zero=>
    simp only[Jr,List.getElem?_cons_zero,Option.some.injEq]at hx hy;subst hx;subst hy;unfold loc at h ⊢
    cases one with
    |true=>
     simp only[if_true]at h ⊢;intro w' _;have:=h w (jJQ _ _);simp only[vls]at this ⊢;rw[hm l _ (List.mem_cons_self ..)];exact this
    |false=>
     simp only[Bool.false_eq_true,if_false]at h ⊢;obtain⟨arr,G,J,M⟩:=h;refine⟨arr,G,J,fun w' _=>?_⟩;have:=M w (jJQ _ _);simp only[vls]at this ⊢;rw[hm l _ (List.mem_cons_self ..)];exact this
   |succ j=>exact jLB rs B (o+l.length) j x y v E (by simpa[Jr] using hx) (by simpa[Jr] using hy) h
  |rv l one=>
   cases j with
   |zero=>simp only[Jr,List.getElem?_cons_zero,Option.some.injEq]at hy;subst hy;trivial
   |succ j=>exact jLB rs B o j x y v E (by simpa[Jr] using hx) (by simpa[Jr] using hy) h
  |bp l=>
   cases j with
   |zero=>simp only[Jr,List.getElem?_cons_zero,Option.some.injEq]at hy;subst hy;trivial
   |succ j=>exact jLB rs B o j x y v E (by simpa[Jr] using hx) (by simpa[Jr] using hy) h
  |br l=>
   cases j with
   |zero=>simp only[Jr,List.getElem?_cons_zero,Option.some.injEq]at hy;subst hy;trivial
   |succ j=>exact jLB rs B o j x y v E (by simpa[Jr] using hx) (by simpa[Jr] using hy) h
theorem jNS (k:Nat):∀(rs:List Arg) (o:Nat),(Jr k o rs).length=rs.length
 |[],o=>rfl
 |r ::rs,o=>by cases r <;> simp[Jr,jNS k rs]
theorem jLX (k:Nat):∀(rs:List Arg) (o:Nat),(∀z,.pl z ∈ rs->jKg z=true)->∀x ∈ Jr k o rs,∀l,x≠.tp l
 |[],o,_,x,hx=>by simp[Jr]at hx
 |r ::rs,o,hp,x,hx=>by
  have B:∀z,.pl z ∈ rs->jKg z=true:=fun z hz=>hp z (List.mem_cons_of_mem _ hz);intro l e;subst e
  cases r with
  |pl z=>
   simp only[Jr]at hx;rcases List.mem_cons.1 hx with h|h
   .have:=hp z (List.mem_cons_self ..);rw[<-h]at this;cases this
   .exact jLX k rs o B _ h l rfl
  |ow m one=>
   simp only[Jr]at hx;rcases List.mem_cons.1 hx with h|h
   .unfold loc at h;split at h <;> cases h
   .exact jLX k rs _ B _ h l rfl
  |rv m one=>simp only[Jr]at hx;rcases List.mem_cons.1 hx with h|h;cases h;exact jLX k rs o B _ h l rfl
  |bp m=>simp only[Jr]at hx;rcases List.mem_cons.1 hx with h|h;cases h;exact jLX k rs o B _ h l rfl
  |br m=>simp only[Jr]at hx;rcases List.mem_cons.1 hx with h|h;cases h;exact jLX k rs o B _ h l rfl
theorem jRx {w:World}{A:Nat->Prop}{mo:Nat->Mo}{fp:Nat->List Nat}{x:Av}{v:Value}(h:TV w A mo fp x v) (hn:∀l,x≠.tp l):TV0 w A mo fp x v:=by
 cases x <;> first|exact h|exact absurd rfl (hn _)
theorem jR1 {w:World}{A:Nat->Prop}{mo mo':Nat->Mo}{fp fp':Nat->List Nat}{k k':Nat}{rs:List Arg}(hm:∀l one,.ow l one ∈ rs->mo' k'=mo k) (hp:∀z,.pl z ∈ rs->jKg z=true) {v:Value}(h:TV w A mo fp (jKe k rs) v):TV w A mo' fp' (jKe k' rs) v:=by
 have hl:=jNS k rs 0;have B:=jNS k' rs 0;unfold jKe at h ⊢
 cases hx :Jr k 0 rs with
 |nil=>
  rw[hx]at h hl;have:Jr k' 0 rs=[]:=List.eq_nil_of_length_eq_zero (by simpa using B.trans hl.symm);rw[this];obtain⟨arr,G,J,_⟩:=h;exact⟨arr,G,J,fun j x u hx=>by simp at hx⟩
 |cons x l=>
  cases hy :Jr k' 0 rs with
  |nil=>rw[hy]at B;rw[hx]at hl;simp at hl B;omega
  |cons y l'=>
   rw[hx]at h
   cases l with
   |nil=>
    cases l' with
    |cons _ _=>rw[hy]at B;rw[hx]at hl;simp at hl B;omega
    |nil=>exact jLB rs hm 0 0 x y v hp (by rw[hx];rfl) (by rw[hy];rfl) h
   |cons x2 l=>
    cases l' with
    |nil=>rw[hy]at B;rw[hx]at hl;simp at hl B;omega
    |cons y2 l'=>
     obtain⟨arr,G,J,O⟩:=h;refine⟨arr,G,by rw[J,<-hx,<-hy,hl,B],fun j z u hz hu=>?_⟩;have M:j<(Jr k 0 rs).length:=by rw[hl,<-B,hy];exact(List.getElem?_eq_some_iff.1 hz).1
     have E:(Jr k 0 rs)[j]? =some (Jr k 0 rs)[j]:=List.getElem?_eq_getElem M;have:=O j (Jr k 0 rs)[j] u (by rw[<-hx];exact E) hu;exact jRx (jLB rs hm 0 j _ z u hp E (by rw[hy];exact hz) (tv0 this)) (jLX k' rs 0 hp z (by rw[hy];exact List.mem_of_getElem? hz))
end
section
variable {T:Tb}{c c' c'':Cf}
theorem jT9 {st:St}:∀{qs:Qs}{bp:Option Pth},bpP T st qs=some bp->(bp=none/\∀q ∈ qs,q.2.1≠3)\/∃p,bp=some p/\(∃R,lkr T st.rt p.r=some R/\own R=true)/\∃(i:Nat) (q:Operand × Nat × TypeId),qs[i]? =some q/\q.2.1=3/\evo T st q.1= .pa p/\∀(j:Nat) (q':Operand × Nat × TypeId),qs[j]? =some q'->q'.2.1=3->j=i
 |[],bp,h=>by cases h;exact .inl ⟨rfl,fun q E=>by cases E⟩
 |(x,m,t) ::qs,bp,h=>by
  simp only[bpP]at h
  split at h
  .rename_i hm
   split at h
   .rename_i p hp
    by_cases B:(qs.all (fun q=>q.2.1 != 3) && jNU T st p.r)=true
    .rw[if_pos B]at h
     injection h with h
     subst h;rw[Bool.and_eq_true]at B;refine .inr ⟨p,rfl,?_,0,(x,m,t),rfl,hm,hp,fun j q' hj hq'=>?_⟩
     .have h2:=B.2
      unfold jNU at h2
      split at h2
      .rename_i R hR;exact⟨R,hR,h2⟩
      .cases h2
     .cases j with
      |zero=>rfl
      |succ j=>
       have:=List.all_eq_true.1 B.1 q' (List.mem_of_getElem? (by simpa using hj));simp[hq']at this
    .rw[if_neg B]at h;cases h
   .cases h
  .rename_i hm
   rcases jT9 h with⟨G,h2⟩|⟨p,G,h2,i,q,J,M,O,P⟩
   .exact .inl ⟨G,fun q E=>by rcases List.mem_cons.1 E with rfl|E;exact hm;exact h2 q E⟩
   .refine .inr ⟨p,G,h2,i+1,q,by simpa using J,M,O,fun j q' hj hq'=>?_⟩
    cases j with
    |zero=>simp at hj;subst hj;exact absurd hq' hm
    |succ j=>rw[P j q' (by simpa using hj) hq']
def Zm (qs:Qs) (mB m:Mo):Prop:=(∃q0,qs[0]? =some q0/\q0.2.1=3)->m=mB
theorem jmd (hc:Ok T c) {Fow X0:List Nat}(hX:c.X=Fow ++X0) {act:Act}(ha:∀t,act.tmps.getD t undef=c.a t) {B:Qs}{as:List Arg}{ow:List C × Bool}(E:B.length<=1000) (h2:jMb T c.st ow B=some as) (hk:jLb c.st=true)
 (hO:∀(i:Nat) (q:Operand × Nat × TypeId),B[i]? =some q->q.2.1=1->(∀(j:Nat) (q':Operand × Nat × TypeId),B[j]? =some q'->q'.2.1=1->j=i)/\RL c.w c.A ow.1 (act.eval q.1).cells.toList Fow/\(ow.2=true->(act.eval q.1).cells=#[act.eval q.1])/\(ow.2=false->∃arr,act.eval q.1= .agg arr))
 {mB:Mo}{FB:List Nat}{rB:Nat}(hB:∀(i:Nat) (q:Operand × Nat × TypeId) (x:Arg),B[i]? =some q->q.2.1=3->as[i]? =some x->AD (Zm B mB) c.w c.A x (act.eval q.1) mB FB/\∀(j:Nat) (q':Operand × Nat × TypeId),B[j]? =some q'->q'.2.1=3->j=i) (k9:FB.Nodup) (Y:∀g ∈ FB,¬c.A g/\g ∈ c.fp rB) (h7:FB≠[]->∃R,lkr T c.st.rt rB=some R/\own R=true) (k8:FB≠[]->∀q ∈ B,(q.2.1=2\/q.2.1=4\/(q.2.1=5/\alA (evo T c.st q.1)=none))->∀r,jMW (evo T c.st q.1)=some r->r≠rB) (h5:∀q ∈ B,q.2.1=5->∀r o k,alA (evo T c.st q.1)=some (r,o,k)->∀mo fp,Zm B mB (mo 0)->TV c.w c.A mo fp (.pa ⟨0,o,[k]⟩) (act.eval q.1)) :
 ∃cc:Cf,Ok T cc/\cc.w=c.w/\cc.A=c.A/\cc.st=entry as/\cc.X=[]/\(∀t,as.length<=t->cc.a t=undef)/\(List.range as.length).map cc.a=B.map (fun q=>act.eval q.1)/\(∀g,Ow T cc g->g ∈ Fow\/g ∈ FB)/\∀(i:Nat) (q:Operand × Nat × TypeId),B[i]? =some q->q.2.1=3->cc.mo i=mB/\cc.fp i=FB:=by
 obtain⟨r3,q9⟩:=jQ0 h2;have h4:=hc.sx.dj;have r5:Fow.Nodup:=by have:=hc.sx.nd;rw[hX,List.nodup_append]at this;exact this.1
 have r7:∀(i:Nat),∃mF:Mo × List Nat,∀(q:Operand × Nat × TypeId) (x:Arg),B[i]? =some q->as[i]? =some x->AD (Zm B mB) c.w c.A x (act.eval q.1) mF.1 mF.2/\mF.2.Nodup/\(q.2.1=1->mF.2=Fow/\jKP x=true)/\(q.2.1=3->mF=(mB,FB)/\jKP x=true)/\(q.2.1≠1->q.2.1≠3->jKP x=false/\∀g ∈ mF.2,(q.2.1=2\/q.2.1=4\/(q.2.1=5/\alA (evo T c.st q.1)=none))/\∃r,jMW (evo T c.st q.1)=some r/\g ∈ c.fp r):=by
  intro i
  cases J :B[i]? with
  |none=>exact⟨(mB,[]),fun q x h=>by cases h⟩
  |some q=>
   cases hx' :as[i]? with
   |none=>exact⟨(mB,[]),fun q x _ h=>by cases h⟩
   |some x=>
    obtain⟨q1,r2,G⟩:=q9 i x hx';rw[J]at r2;cases r2
    by_cases O:q.2.1=1
    .obtain⟨o1,o2,o3,o4⟩:=hO i q J O
     have h9:x= .ow ow.1 ow.2:=by
      unfold jKU at G;rw[O]at G;cases G;rfl
     refine⟨({mB with vs:=(act.eval q.1).cells.toList},Fow),fun q' x' hq'' hx''=>?_⟩;cases hq'';cases hx'';subst h9;refine⟨⟨o2,?_⟩,r5,fun _=>⟨rfl,rfl⟩,fun h=>by omega,fun h=>absurd O h⟩
     cases ho :ow.2 with
     |true=>simp only[if_true];rw[o3 ho]
     |false=>
      simp only[Bool.false_eq_true,if_false];obtain⟨arr,e⟩:=o4 ho;exact⟨arr,e,by rw[e];rfl⟩
    .by_cases e3:q.2.1=3
     .obtain⟨b1,b2⟩:=hB i q x J e3 hx'
      have h9:jKP x=true:=by
       unfold jKU at G;rw[e3]at G;simp only at G
       split at G
       .split at G
        .split at G
         .cases G;rfl
         .cases G
        .cases G
       .cases G
      refine⟨(mB,FB),fun q' x' hq'' hx''=>?_⟩;cases hq'';cases hx'';exact⟨b1,k9,fun h=>absurd h O,fun _=>⟨rfl,h9⟩,fun _ h=>absurd e3 h⟩
     .obtain⟨d0,m,F,d1,d2,d3⟩:=jZT hc ha (Z:=Zm B mB) G O e3 (h5 q (List.mem_of_getElem? J))
      refine⟨(m,F),fun q' x' hq'' hx''=>?_⟩;cases hq'';cases hx'';exact⟨d1,d2,fun h=>absurd h O,fun h=>absurd h e3,fun _ _=>⟨d0,d3⟩⟩
 obtain⟨mF,M⟩:=Classical.skolem.1 r7;have V:∀(i:Nat) (x:Arg),as[i]? =some x->∃q,B[i]? =some q:=fun i x h=>by obtain⟨q,h1,_⟩:=q9 i x h;exact⟨q,h1⟩
 have P:∀(i:Nat) (q:Operand × Nat × TypeId) (x:Arg),B[i]? =some q->as[i]? =some x->jKP x=true->q.2.1=1\/q.2.1=3:=fun i q x E hx ho=>by
  by_cases O:q.2.1=1
  .exact .inl O
  .by_cases e3:q.2.1=3
   .exact .inr e3
   .have:=((M i q x E hx).2.2.2.2 O e3).1
    rw[ho]at this;cases this
 have h8:∀g ∈ FB,FB≠[]:=fun g hg h=>by rw[h]at hg;cases hg
 obtain⟨cc,k1,k2,k3,k4,k5,k6,k7⟩:=jYW hc (as:=as) (by omega) (a:=fun t=>match B[t]? with|some q=>act.eval q.1|none=>undef) (m:=fun i=>(mF i).1) (F:=fun i=>(mF i).2) (fun t ht=>by rw[List.getElem?_eq_none (by omega)]) (Z:=Zm B mB) (fun⟨q0,hq0,hm⟩=>by
  have hl:=(List.getElem?_eq_some_iff.1 hq0).1;rw[if_pos (by omega)];obtain⟨z1,_⟩:=(M 0 q0 _ hq0 (List.getElem?_eq_getElem (by omega:0<as.length))).2.2.2.1 hm
  rw[z1])
  (fun i x hx=>by
   obtain⟨q,E⟩:=V i x hx;simp only[E]
   exact(M i q x E hx).1)
  (fun i x hx=>by obtain⟨q,E⟩:=V i x hx;exact(M i q x E hx).2.1)
  (fun i x hx ho g hg=>by
   obtain⟨q,E⟩:=V i x hx;have hd:=M i q x E hx;rcases P i q x E hx ho with e|e
   .rw[(hd.2.2.1 e).1]at hg
    exact hc.sx.na g (by rw[hX];simp[hg])
   .rw[(hd.2.2.2.1 e).1]at hg
    exact(Y g hg).1)
  (fun i j x y hne hx hy ho g hg hg'=>by
   obtain⟨q,E⟩:=V i x hx;obtain⟨q',J⟩:=V j y hy;have hd:=M i q x E hx;have h6:=M j q' y J hy;rcases P i q x E hx ho with e|e
   .rw[(hd.2.2.1 e).1]at hg
    have r1:g ∈ c.X:=by rw[hX];simp[hg]
    by_cases O:q'.2.1=1
    .exact hne ((hO i q E e).1 j q' J O).symm
    .by_cases e3:q'.2.1=3
     .rw[(h6.2.2.2.1 e3).1]at hg'
      exact h4 g r1 rB (Y g hg').2
     .obtain⟨_,r,_,hr⟩:=(h6.2.2.2.2 O e3).2 g hg'
      exact h4 g r1 r hr
   .rw[(hd.2.2.2.1 e).1]at hg
    by_cases O:q'.2.1=1
    .rw[(h6.2.2.1 O).1]at hg'
     exact h4 g (by rw[hX];simp[hg']) rB (Y g hg).2
    .by_cases e3:q'.2.1=3
     .exact hne ((hB i q x E e hx).2 j q' J e3).symm
     .obtain⟨hm,r,hr1,hr2⟩:=(h6.2.2.2.2 O e3).2 g hg'
      obtain⟨R,hR,h3⟩:=h7 (h8 g hg);have r4:=k8 (h8 g hg) q' (List.mem_of_getElem? J) hm r hr1
      exact jLd hc.sx.sr hR h3 r4 hr2 (Y g hg).2)
  (fun i x k hx ho hk' g hg hg'=>by
   obtain⟨q,E⟩:=V i x hx;have hd:=M i q x E hx;rcases P i q x E hx ho with e|e
   .rw[(hd.2.2.1 e).1]at hg
    exact h4 g (by rw[hX];simp[hg]) k hg'
   .rw[(hd.2.2.2.1 e).1]at hg
    obtain⟨R,hR,h3⟩:=h7 (h8 g hg);refine jLd hc.sx.sr hR h3 (fun e'=>?_) hg' (Y g hg).2;have h1:=jLG (T:=T) hk k hk';rw[e',hR]at h1
    split at h1
    .cases h1;cases h3
    .cases h1)
  (jLG hk)
 refine⟨cc,k1,k2,k3,k4,k5,fun t ht=>by rw[k6];simp only;rw[List.getElem?_eq_none (by omega)],?_,fun g hg=>?_,fun i q E hm=>?_⟩
 .rw[k6]
  apply List.ext_getElem?;intro t;rw[List.getElem?_map,List.getElem?_map]
  by_cases ht:t<as.length
  .rw[List.getElem?_range ht]
   have:B[t]? =some (B[t]'(by omega)):=List.getElem?_eq_getElem (by omega);simp only[Option.map_some,this]
  .rw[List.getElem?_eq_none (by simp;omega),List.getElem?_eq_none (by omega)]
   rfl
 .rcases hg with⟨k,R,hR,ho,hgk⟩|hg
  .rw[k4]at hR
   have hR:lkr T (jKb 0 as) k=some R:=hR;rw[jN7 T as 0 k (by omega)]at hR
   split at hR
   .rename_i hlt
    rw[Nat.sub_zero]at hR
    split at hR
    .rename_i x hx
     obtain⟨q,J⟩:=V k x hx;have r6:jKP x=true:=by cases x <;> cases hR <;> first|rfl|cases ho
     have hd:=M k q x J hx;rw[(k7 k x hx).2]at hgk;rcases P k q x J hx r6 with e|e
     .rw[(hd.2.2.1 e).1]at hgk;exact .inl hgk
     .rw[(hd.2.2.2.1 e).1]at hgk;exact .inr hgk
    .cases hR
   .split at hR
    .cases hR;cases ho
    .cases hR
  .rw[k5]at hg;cases hg
 .have hlt:i<as.length:=by rw[r3];exact(List.getElem?_eq_some_iff.1 E).1
  have hx:as[i]? =some as[i]:=List.getElem?_eq_getElem hlt;have hd:=M i q _ E hx;obtain⟨z1,z2⟩:=k7 i _ hx;have:=(hd.2.2.2.1 hm).1;exact⟨by rw[z1,this],by rw[z2,this]⟩
end
end V
end Go.Proofs.YtnhbcdnmfafbiaaGreatDoor
