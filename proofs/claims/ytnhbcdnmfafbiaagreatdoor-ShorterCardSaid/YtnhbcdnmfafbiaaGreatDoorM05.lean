import Derived.Test.YtnhbcdnmfafbiaaGreatDoorM04
set_option linter.unusedVariables false
set_option linter.unusedSimpArgs false
set_option maxHeartbeats 20000000
namespace Go.Proofs.YtnhbcdnmfafbiaaGreatDoor
namespace V
open Go.RowKit
section
variable {T:Tb}{c c' c'':Cf}
theorem Ok.takeP (G:Ok T c) {p:Pth}{n:Nat}{l:List C}{st':St}(h:V.takeP T c.st p n=some (l,st')):∃mo' fp' Fs us,Ok T ⟨c.w,c.A,st',mo',fp',c.a,Fs ++c.X⟩/\Stp T c ⟨c.w,c.A,st',mo',fp',c.a,Fs ++c.X⟩/\RL c.w c.A l us Fs/\us.length=n/\vls c.w (c.mo p.r) p n=some us:=by
 unfold V.takeP at h
 split at h
 .rename_i hp
  rw[Bool.and_eq_true,List.isEmpty_iff]at hp;obtain⟨hp,J⟩:=hp;have J:p.r<1000000:=Nat.le_of_ble_eq_true J
  split at h
  .rename_i R hR
   split at h
   .rename_i P
    rw[Bool.and_eq_true]at P;obtain⟨P,h9⟩:=P;have h9:R.kd≠9:=by simpa using h9
    split at h
    .rename_i l' hg
     obtain⟨e1,e2,e3⟩:=jLH _ _ _ _ hg;have Y:=G.sx.sr;have h5:=Y.nd _ _ hR;have h1:=Y.fa _ _ hR P
     split at h
     .rename_i hw
      obtain⟨h6,h3,O⟩:=hw;cases h;have Z:=Y.rts _ _ hR
      have M:RL c.w c.A R.cs (c.mo p.r).vs (c.fp p.r):=by
       unfold jJM at Z;rw[if_neg h9,if_pos (by unfold isV;rw[h6];rfl)]at Z;exact Z
      obtain⟨d1,d2⟩:=G.drop hR P (by omega) J;refine⟨_,_,c.fp p.r,(c.mo p.r).vs,d1,d2,?_,by rw[<-M.len,O],?_⟩
      .rw[e1,h3,O,List.drop_zero,List.take_length];exact M
      .unfold vls
       rw[hp,h3];simp only;rw[if_pos (by rw[<-M.len,O];omega),List.drop_zero,List.take_of_length_le (by rw[<-M.len,O];exact Nat.le_refl _)]
     .cases h
      obtain⟨F1,Fs,F2,us,hF,r1,r2,r3,r4⟩:=jUY Y hp hR h9 hg;have B:=h5;rw[hF,List.append_assoc,List.nodup_append]at B
      have h4:(F1 ++F2).Nodup:=by
       rw[List.nodup_append];refine⟨B.1,(List.nodup_append.1 B.2.1).2.1,fun x hx y hy=>B.2.2 x hx y (by simp[hy])⟩
      obtain⟨d1,d2⟩:=G.turn (o:=p.o) (n:=n) (w':=c.w) (A':=c.A) (X':=Fs ++c.X) (R':=⟨R.kd,ovl R.cs p.o (uks n)⟩) (m':=c.mo p.r) (F':=F1 ++F2) hR P rfl (jMx _ _ _) rfl rfl (fun _ _=>rfl) J (fun _ _ _ _=>rfl) (Below.refl _ _) (fun k hk=>hk) (fun k hk=>⟨.inl hk,G.al k hk⟩) r4 h4 (fun g hg=>h1 g (by rw[hF];simp at hg ⊢;rcases hg with h|h <;> simp[h])) (fun g hg=>.inl (by rw[hF];simp at hg ⊢;rcases hg with h|h <;> simp[h])) (by
       rw[List.nodup_append]
       exact⟨(List.nodup_append.1 B.2.1).1,G.sx.nd,fun x hx y hy e=>G.sx.dj y hy p.r (by rw[hF,<-e];simp[hx])⟩) (fun g hg=>by
       rcases List.mem_append.1 hg with h|h
       .exact h1 g (by rw[hF];simp[h])
       .exact G.sx.na g h) (fun g hg=>by
       rcases List.mem_append.1 hg with h|h
       .refine⟨.inl (by rw[hF];simp[h]),fun E=>?_,jKa Y (k:=p.r) (by rw[hF];simp[h])⟩
        simp only[List.mem_append]at E;rcases E with E|E
        .exact B.2.2 g E g (by simp[h]) rfl
        .exact(List.nodup_append.1 B.2.1).2.2 g h g E rfl
       .exact⟨.inr (.inl h),fun E=>G.sx.dj g h p.r (by rw[hF];simp at E ⊢;rcases E with E|E <;> simp[E]),G.sx.lt g h⟩)
      exact⟨_,_,Fs,us,d1,d2,r1,r2,r3⟩
    .cases h
   .cases h
  .cases h
 .cases h
theorem Ok.takeN (E:Ok T c) {p:Pth}(J:p.p≠[]) {n:Nat}{l:List C}{st':St}(h:V.takeN T c.st p n=some (l,st')):∃mo' fp' Fs us,Ok T ⟨c.w,c.A,st',mo',fp',c.a,Fs ++c.X⟩/\Stp T c ⟨c.w,c.A,st',mo',fp',c.a,Fs ++c.X⟩/\RL c.w c.A l us Fs/\us.length=n/\vls c.w (c.mo p.r) p n=some us:=by
 unfold V.takeN at h
 split at h
 .rename_i P
  have P:p.r<1000000:=Nat.le_of_ble_eq_true P
  split at h
  .rename_i R hR
   split at h
   .rename_i O
    rw[Bool.and_eq_true]at O;obtain⟨O,h9⟩:=O;have h9:R.kd≠9:=by simpa using h9
    split at h
    .rename_i l' hg
     split at h
     .rename_i cs hs
      cases h;have Z:=E.sx.sr;have h6:=Z.rts _ _ hR;have h3:=Z.nd _ _ hR;have h1:=Z.fa _ _ hR O;obtain⟨g1,a1,h4,k3,k2,F1,Fo,F2,s1,s2,s3,s4,s5,s6,M,s8,s9,h7⟩:=h6.lens h3 (fun e=>absurd e J) h9 hg;obtain⟨k1,h8,t1,t2,t3,t4,t5⟩:=h7 c.w c.A (uks n) [] ⟨by simp[uks],⟨h4,s2,rfl,fun _ _=>rfl,by have:=s6.uks;rw[s5]at this;exact this⟩,fun k hk=>⟨hk,rfl⟩,fun _ _ _=>rfl⟩;rw[t1]at hs;cases hs;have B:=h3;rw[M,List.append_assoc,List.nodup_append]at B
      have h5:(F1 ++[] ++F2).Nodup:=by
       rw[List.append_nil,List.nodup_append];exact⟨B.1,(List.nodup_append.1 B.2.1).2.1,fun x hx y hy=>B.2.2 x hx y (by simp[hy])⟩
      have Y:∀{g},g ∈ F1 ++[] ++F2->g ∈ c.fp p.r:=fun {g} hg=>by
       rw[M];simp only[List.append_nil,List.mem_append]at hg ⊢;rcases hg with h|h <;> simp[h]
      obtain⟨d1,d2⟩:=E.turn (o:=p.o) (n:=0) (w':=c.w) (A':=c.A) (X':=Fo ++c.X) (R':=⟨R.kd,cs⟩) (m':={c.mo p.r with vs:=h8}) (F':=F1 ++[] ++F2) hR O rfl t2 rfl t3 (fun i _=>t5 i (.inl J)) P (fun _ _ _ _=>rfl) (Below.refl _ _) (fun k hk=>hk) (fun k hk=>⟨.inl hk,E.al k hk⟩) t4 h5 (fun g hg=>h1 g (Y hg)) (fun g hg=>.inl (Y hg)) (by
       rw[List.nodup_append]
       exact⟨(List.nodup_append.1 B.2.1).1,E.sx.nd,fun x hx y hy e=>E.sx.dj y hy p.r (by rw[M,<-e];simp[hx])⟩) (fun g hg=>by
       rcases List.mem_append.1 hg with h|h
       .exact h1 g (by rw[M];simp[h])
       .exact E.sx.na g h) (fun g hg=>by
       rcases List.mem_append.1 hg with h|h
       .refine⟨.inl (by rw[M];simp[h]),fun G=>?_,jKa Z (k:=p.r) (by rw[M];simp[h])⟩
        simp only[List.append_nil,List.mem_append]at G;rcases G with G|G
        .exact B.2.2 g G g (by simp[h]) rfl
        .exact(List.nodup_append.1 B.2.1).2.2 g h g G rfl
       .exact⟨.inr (.inl h),fun G=>E.sx.dj g h p.r (Y G),E.sx.lt g h⟩)
      refine⟨_,_,Fo,_,d1,d2,s6,by rw[<-s6.len,s5],?_⟩;unfold vls
      cases hq :p.p with
      |nil=>exact absurd hq J
      |cons x y=>
       simp only;rw[<-hq,s1,Option.bind_some];unfold jMa;simp only[s2];rw[if_pos s4]
     .cases h
    .cases h
   .cases h
  .cases h
 .cases h
theorem Ok.takeQ (B:Ok T c) {p:Pth}{n:Nat}{l:List C}{st':St}(h:V.takeQ T c.st p n=some (l,st')):∃mo' fp' Fs us,Ok T ⟨c.w,c.A,st',mo',fp',c.a,Fs ++c.X⟩/\Stp T c ⟨c.w,c.A,st',mo',fp',c.a,Fs ++c.X⟩/\RL c.w c.A l us Fs/\us.length=n/\vls c.w (c.mo p.r) p n=some us:=by
 unfold V.takeQ at h
 split at h
 .exact B.takeP h
 .rename_i hp;exact B.takeN (fun e=>hp (by rw[e];rfl)) h
def jLr:Av->Bool
 | .ag _=>false
 | .la _ _=>false
 |_=>true
theorem Ok.takeV (G:Ok T c) {x:Av}{u:Value}{l:List C}{st':St}(hx:TV c.w c.A c.mo c.fp x u) (h:V.takeV T c.st x=some (l,st')):∃mo' fp' Fs,Ok T ⟨c.w,c.A,st',mo',fp',c.a,Fs ++c.X⟩/\Stp T c ⟨c.w,c.A,st',mo',fp',c.a,Fs ++c.X⟩/\RL c.w c.A l u.cells.toList Fs/\(jLr x=true->u.cells=#[u]):=by
 have pl:∀{x:Av}{l:List C},cls x=some l->TV c.w c.A c.mo c.fp x u->(jLr x=true->u.cells=#[u])->∃mo' fp' Fs,Ok T ⟨c.w,c.A,c.st,mo',fp',c.a,Fs ++c.X⟩/\Stp T c ⟨c.w,c.A,c.st,mo',fp',c.a,Fs ++c.X⟩/\RL c.w c.A l u.cells.toList Fs/\(jLr x=true->u.cells=#[u]):=fun h hx B=>⟨c.mo,c.fp,[],G,Stp.refl c,jQQ h hx,B⟩
 unfold V.takeV at h
 split at h
 .cases h;exact pl rfl hx (fun _=>by have:=RC.one hx;cases u <;> first|rfl|cases this)
 .cases h;exact pl rfl hx (fun h=>by cases h)
 .cases h;exact pl rfl hx (fun _=>by have hx :u= .slice none 0 0:=hx;rw[hx];rfl)
 .rename_i p
  obtain⟨mo',fp',Fs,us,B,E,h2,h3,O⟩:=G.takeP h;have:=hx c.w (jJQ _ _);rw[O]at this;cases this
  have Y:u.cells=#[u]:=by
   cases h2 with
   |cons q1 q2=>have:=q1.one;cases u <;> first|rfl|cases this
  exact⟨mo',fp',Fs,B,E,by rw[Y];exact h2,fun _=>Y⟩
 .rename_i p n
  obtain⟨mo',fp',Fs,us,B,E,h2,h3,O⟩:=G.takeQ h;obtain⟨arr,rfl,_,hx⟩:=hx;have:=hx c.w (jJQ _ _);rw[O]at this;cases this;exact⟨mo',fp',Fs,B,E,h2,fun h=>by cases h⟩
 .rename_i p z b
  split at h
  .rename_i zz l0 st0 ht
   cases h;obtain⟨mo',fp',Fs,us,B,E,h2,h3,O⟩:=G.takeP ht;obtain⟨g,len,cap,q1,q2,q3,q4,rfl⟩:=hx;have:=q1 c.w (jJQ _ _);rw[O]at this;cases this
   cases h2 with
   |cons r1 r2=>
    cases r2
    cases r1 with
    |@ro _ _ F0 z' _ arr ty fz b1 b2 b3 b4 b5 b6=>
     obtain⟨M,t1,t2⟩:=RE.tk' b b6;have P:(l0.take b).length=b:=by rw[List.length_take];omega
     have h6:RC c.w c.A (.r true zz (l0.take b)) (.slice (some ⟨g,0,none⟩) (l0.take b).length cap) (g ::M):=.ro b1 b2 b3 b4 (by rw[P];omega) t1;rw[P]at h6
     have Z:((g ::M) ++c.X).Sublist ((g ::F0 ++[]) ++c.X):=by
      refine List.Sublist.append ?_ (List.Sublist.refl _);simp only[List.append_nil];exact List.Sublist.cons_cons _ t2
     obtain⟨x1,x2⟩:=B.xs (X':=(g ::M) ++c.X) (Z.nodup B.sx.nd) (fun k hk=>Z.subset hk);refine⟨mo',fp',g ::M,x1,E.trans x2,?_,fun _=>rfl⟩
     have hv:(Value.slice (some (if cap=0 then⟨g,0,none⟩ else⟨g,0*z,none⟩)) (b-0) (cap-0))= .slice (some ⟨g,0,none⟩) b cap:=by
      rw[Nat.zero_mul,Nat.sub_zero,Nat.sub_zero,ite_self]
     rw[hv];have:RL c.w c.A [.r true zz (l0.take b)] [.slice (some ⟨g,0,none⟩) b cap] ((g ::M) ++[]):=.cons h6 .nil;rw[List.append_nil]at this;exact this
  .cases h
 .rename_i p
  split at h
  .rename_i hp
   obtain⟨h8,h5,h9⟩:=hp;rw[List.isEmpty_iff]at h5
   split at h
   .rename_i R hR
    split at h
    .rename_i hk
     cases h;have ho:own R=true:=by unfold own;rw[hk];rfl
     have J:=G.sx.sr.rts _ _ hR;unfold jJM at J;have hv:isV R=false:=by unfold isV;rw[hk];rfl
     rw[if_neg (by omega),hv]at J;simp only[Bool.false_eq_true,if_false]at J;obtain⟨F',arr,hF,hL,k3,k2,k1,B⟩:=J;obtain⟨q1,q2⟩:=B hk;obtain⟨g,q,e1,rfl⟩:=hx;have:=e1 c.w (jJQ _ _);rw[h5,h8]at this;simp only[ad,q1,Option.some.injEq,Prod.mk.injEq]at this;obtain⟨rfl,rfl⟩:=this;obtain⟨d1,d2⟩:=G.drop hR ho (by omega) h9;refine⟨_,_,c.fp p.r,d1,d2,?_,fun _=>rfl⟩;have h7:=hL.rl;rw[q1,List.drop_zero,List.take_of_length_le (by simp;omega)]at h7;have:RL c.w c.A [.bx R.cs] [.pointer (some ⟨(c.mo p.r).k,0,none⟩)] (((c.mo p.r).k ::F') ++[]):=.cons (.bx hL.blk (hL.okz ho) h7) .nil;rw[List.append_nil,<-hF]at this;exact this
    .cases h
   .cases h
  .cases h
 .cases h
end
def okD (T:Tb) (st:St) (d:Nat):Bool:=Nat.blt d 1000000 && match lkr T st.rt d with
 |none=>true
 |some R=>R.kd == 1 || R.kd == 2
def mkBox (T:Tb) (st:St) (d:Nat) (l:List C):Option (Av × St):=if okD T st d then some (.pa ⟨d,0,[]⟩,⟨jKs d st.tm,upR st.rt d ⟨1,l⟩⟩) else none
def mkVal (T:Tb) (st:St) (d:Nat) (c:C):Option (Av × St):=if okD T st d then some (.lo ⟨d,0,[]⟩,⟨jKs d st.tm,upR st.rt d ⟨2,[c]⟩⟩) else none
section
variable {T:Tb}{c c' c'':Cf}
theorem jM7 {st:St}{d:Nat}(h:okD T st d=true):d<1000000/\∀R,lkr T st.rt d=some R->own R=true/\R.kd≠0:=by
 unfold okD at h;rw[Bool.and_eq_true]at h;refine⟨Nat.le_of_ble_eq_true h.1,fun R hR=>?_⟩;have h2:=h.2;rw[hR]at h2;simp only[Bool.or_eq_true,beq_iff_eq]at h2;rcases h2 with h2|h2
 .exact⟨by unfold own;rw[h2];rfl,by omega⟩
 .exact⟨by unfold own;rw[h2];rfl,by omega⟩
theorem jLm {w:World}{o:Obj}{k:Nat}(hk:k<w.heap.size):({w with heap:=w.heap.push o}:World).heap[k]? =w.heap[k]?:=by
 show(w.heap.push o)[k]? =_;rw[Array.getElem?_push,if_neg (by omega)]
theorem jPf (w:World) (o:Obj):Below 0 w {w with heap:=w.heap.push o}:=(Below.refl 0 w).alloc (Nat.zero_le _) o
theorem Ok.mkBox (E:Ok T c) {X0 Fs:List Nat}(G:c.X=Fs ++X0) {d:Nat}{l:List C}{arr:Array Value}(hl:RL c.w c.A l arr.toList Fs) {v:Av}{st':St}(h:V.mkBox T c.st d l=some (v,st')) (ty:TypeId) :
 ∃mo' fp',Ok T ⟨{c.w with heap:=c.w.heap.push (.cells arr ty)},c.A,st',mo',fp',c.a,X0⟩/\Stp T c ⟨{c.w with heap:=c.w.heap.push (.cells arr ty)},c.A,st',mo',fp',c.a,X0⟩/\TV {c.w with heap:=c.w.heap.push (.cells arr ty)} c.A mo' fp' v (.pointer (some ⟨c.w.heap.size,0,none⟩)):=by
 unfold V.mkBox at h
 split at h
 .rename_i hd
  obtain⟨P,ho⟩:=jM7 hd;cases h;have hn:=E.sx.nd;rw[G,List.nodup_append]at hn;have O:({c.w with heap:=c.w.heap.push (.cells arr ty)}:World).heap.size=c.w.heap.size+1:=by simp
  have J:l.length=arr.size:=hl.len.trans (by simp);have M:=hl.lt
  obtain⟨Y,Z⟩:=E.lay (w':={c.w with heap:=c.w.heap.push (.cells arr ty)}) (A':=c.A) (X':=X0) (r:=d) (R':=⟨1,l⟩) (m':=⟨c.w.heap.size,0,arr.toList,arr,ty,(0,0)⟩) (F':=c.w.heap.size ::Fs) ho P
   rfl (fun k hk _ _=>jLm hk) (jPf _ _) (fun k hk=>hk) (fun k hk=>⟨.inl hk,by rw[O];have:=E.al k hk;omega⟩)
   (by
    unfold jJM;rw[if_neg (by simp),if_neg (by simp[isV])];refine⟨Fs,arr,rfl,⟨by show(c.w.heap.push _)[c.w.heap.size]? =_;simp,fun _=>.inl rfl,by simp[J],?_⟩,?_,rfl,fun i hi=>rfl,fun _=>⟨rfl,J.symm⟩⟩
    .rw[List.drop_zero,List.take_of_length_le (by simp[J])]
     exact hl.st (fun k hk=>⟨hk,jLm (E.al k hk)⟩) fun k hk=>jLm (M k hk)
    .show arr.toList=(arr.toList.drop 0).take l.length
     rw[List.drop_zero,List.take_of_length_le (by simp[J])])
   (List.nodup_cons.2 ⟨fun h=>by have:=M _ h;omega,hn.1⟩)
   (fun _ g B=>by
    rcases List.mem_cons.1 B with rfl|B
    .exact fun h=>by have:=E.al _ h;omega
    .exact E.sx.na g (by rw[G];simp[B]))
   (fun g B=>by
    rcases List.mem_cons.1 B with rfl|B
    .exact .inr (.inr (Nat.le_refl _))
    .exact .inr (.inl (by rw[G];simp[B])))
   hn.2.1 (fun g B=>E.sx.na g (by rw[G];simp[B]))
   (fun g B=>⟨.inr (.inl (by rw[G];simp[B])),fun h=>by
    rcases List.mem_cons.1 h with rfl|h
    .have:=E.sx.lt c.w.heap.size (by rw[G];simp[B]);omega
    .exact hn.2.2 g h g B rfl,by rw[O];have:=E.sx.lt g (by rw[G];simp[B]);omega⟩)
  refine⟨_,_,Y,Z,c.w.heap.size,0,fun w' _=>?_,rfl⟩;show ad w' (upd c.mo d _ d) 0 []=_;rw[jqp];rfl
 .cases h
theorem Ok.mkVal (E:Ok T c) {X0 Fs:List Nat}(G:∀g ∈ Fs,g ∈ c.X) (hN:(Fs ++X0).Nodup) (B:∀g ∈ X0,g ∈ c.X) {d:Nat}{x:C}{u:Value}(hl:RC c.w c.A x u Fs) {v:Av}{st':St}(h:V.mkVal T c.st d x=some (v,st')) :
 ∃mo' fp',Ok T ⟨c.w,c.A,st',mo',fp',c.a,X0⟩/\Stp T c ⟨c.w,c.A,st',mo',fp',c.a,X0⟩/\TV c.w c.A mo' fp' v u:=by
 unfold V.mkVal at h
 split at h
 .rename_i hd
  obtain⟨J,P⟩:=jM7 hd;cases h;rw[List.nodup_append]at hN
  obtain⟨M,O⟩:=E.lay (w':=c.w) (A':=c.A) (X':=X0) (r:=d) (R':=⟨2,[x]⟩) (m':=⟨0,0,[u],#[],0,(0,0)⟩) (F':=Fs) P J rfl
   (fun k hk _ _=>rfl) (Below.refl _ _) (fun k hk=>hk) (fun k hk=>⟨.inl hk,E.al k hk⟩)
   (by
    unfold jJM;rw[if_neg (by simp),if_pos (by simp[isV])];have:RL c.w c.A [x] [u] (Fs ++[]):=.cons hl .nil;rw[List.append_nil]at this
    exact this)
   hN.1
   (fun _ g hg=>E.sx.na g (G g hg))
   (fun g hg=>.inr (.inl (G g hg)))
   hN.2.1 (fun g hg=>E.sx.na g (B g hg))
   (fun g hg=>⟨.inr (.inl (B g hg)),fun h=>hN.2.2 g h g hg rfl,E.sx.lt g (B g hg)⟩)
  refine⟨_,_,M,O,fun w' _=>?_⟩;show vls w' (upd c.mo d _ d) _ 1=_;rw[jqp];rfl
 .cases h
def mkAgg (T:Tb) (st:St) (d:Nat) (l:List C):Option (Av × St):=if okD T st d then some (.la ⟨d,0,[]⟩ l.length,⟨jKs d st.tm,upR st.rt d ⟨2,l⟩⟩) else none
theorem Ok.mkAgg (E:Ok T c) {X0 Fs:List Nat}(G:∀g ∈ Fs,g ∈ c.X) (hN:(Fs ++X0).Nodup) (B:∀g ∈ X0,g ∈ c.X) {d:Nat}{l:List C}{arr:Array Value}(hl:RL c.w c.A l arr.toList Fs) {v:Av}{st':St}(h:V.mkAgg T c.st d l=some (v,st')) :
 ∃mo' fp',Ok T ⟨c.w,c.A,st',mo',fp',c.a,X0⟩/\Stp T c ⟨c.w,c.A,st',mo',fp',c.a,X0⟩/\TV c.w c.A mo' fp' v (.agg arr):=by
 unfold V.mkAgg at h
 split at h
 .rename_i hd
  obtain⟨M,Y⟩:=jM7 hd;cases h;rw[List.nodup_append]at hN
  obtain⟨O,P⟩:=E.lay (w':=c.w) (A':=c.A) (X':=X0) (r:=d) (R':=⟨2,l⟩) (m':=⟨0,0,arr.toList,#[],0,(0,0)⟩) (F':=Fs) Y M rfl
   (fun k hk _ _=>rfl) (Below.refl _ _) (fun k hk=>hk) (fun k hk=>⟨.inl hk,E.al k hk⟩)
   (by
    unfold jJM;rw[if_neg (by simp),if_pos (by simp[isV])]
    exact hl)
   hN.1
   (fun _ g hg=>E.sx.na g (G g hg))
   (fun g hg=>.inr (.inl (G g hg)))
   hN.2.1 (fun g hg=>E.sx.na g (B g hg))
   (fun g hg=>⟨.inr (.inl (B g hg)),fun h=>hN.2.2 g h g hg rfl,E.sx.lt g (B g hg)⟩)
  have J:l.length=arr.size:=hl.len.trans (by simp);refine⟨_,_,O,P,arr,rfl,J.symm,fun w' _=>?_⟩;show vls w' (upd c.mo d _ d) _ l.length=_;rw[jqp];show(if 0+l.length<=arr.toList.length then some ((arr.toList.drop 0).take l.length) else none)=_;rw[if_pos (by simp;omega),List.drop_zero,List.take_of_length_le (by simp;omega)]
 .cases h
theorem Ok.grow (B:Ok T c) {w':World}(G:∀k,k<c.w.heap.size->k ∉ c.X->w'.heap[k]? =c.w.heap[k]?) (hlow:Below 0 c.w w') {Y:List Nat}(P:Y.Nodup) (E:∀g ∈ Y,c.w.heap.size<=g/\g<w'.heap.size):Ok T {c with w:=w',X:=Y ++c.X}/\Stp T c {c with w:=w',X:=Y ++c.X}:=by
 have O:∀k,c.A k->c.A k/\w'.heap[k]? =c.w.heap[k]?:=fun k hk=>⟨hk,G k (B.al k hk) fun hx=>B.sx.na k hx hk⟩
 have M:=hlow.size;have J:∀k,∀g ∈ c.fp k,w'.heap[g]? =c.w.heap[g]?:=fun k g hg=>G g (jKa B.sx.sr hg) fun hx=>B.sx.dj g hx k hg;refine⟨⟨⟨⟨fun k R hR=>(B.sx.sr.rts k R hR).stay O (J k),B.sx.sr.nd,B.sx.sr.fa,B.sx.sr.dj,fun t=>?_,B.sx.sr.nf,B.sx.sr.gl⟩,?_,fun g hg=>?_,fun g hg k hk=>?_,fun g hg=>?_⟩,fun k hk=>Nat.lt_of_lt_of_le (B.al k hk) M⟩,hlow,fun g hg hno=>G g hg fun hx=>hno (.inr hx),fun g hg=>?_,fun _ h=>h,fun _ h=>.inl h,fun r R h1 h2=>⟨R,h1,h2,rfl,rfl⟩,fun r R h _ _=>⟨h,rfl,rfl⟩⟩
 .exact TV.same O J (B.sx.sr.tms t)
 .rw[List.nodup_append]
  exact⟨P,B.sx.nd,fun x hx y hy e=>by have:=(E x hx).1;have:=B.sx.lt y hy;omega⟩
 .rcases List.mem_append.1 hg with h|h
  .exact fun h'=>by have:=B.al g h';have:=(E g h).1;omega
  .exact B.sx.na g h
 .rcases List.mem_append.1 hg with h|h
  .have:=jKa B.sx.sr hk;have:=(E g h).1;omega
  .exact B.sx.dj g h k hk
 .rcases List.mem_append.1 hg with h|h
  .exact(E g h).2
  .exact Nat.lt_of_lt_of_le (B.sx.lt g h) M
 .rcases hg with h|h
  .exact .inl (.inl h)
  .rcases List.mem_append.1 h with h|h
   .exact .inr (E g h).1
   .exact .inl (.inr h)
end
def jPx (T:Tb) (st:St) (d:Nat) (x:Av):Option (Av × St):=match takeV T st x with
 |some (l,st1)=>mkBox T st1 d l
 |none=>none
def jPB (T:Tb) (st:St) (d:Nat) (t:TypeId):Option (Av × St):=match (T.ti t).z with
 |some z=>if(T.ti t).kd=0 then none else mkBox T st d z
 |none=>none
def setP (T:Tb) (st:St) (p:Pth) (l:List C):Option St:=if Nat.blt p.r 1000000 && inM (lkr T st.rt) p then match lkr T st.rt p.r with
 |some R=>if own R && !(R.kd == 9) then match gL p.p R.cs p.o l.length with
  |some _=>match sL p.p R.cs p.o l with
   |some cs=>some ⟨jKt p.r p.o (if p.p.isEmpty then l.length else 0) st.tm,upR st.rt p.r ⟨R.kd,cs⟩⟩
   |none=>none
  |none=>none
  else none
 |none=>none else none
def nlS (T:Tb) (t:TypeId):Av->Av
 | .nl=>.c (.r true (T.ti (T.ti t).el).sz [])
 |x=>x
def jM3 (T:Tb) (st:St) (t:TypeId) (x:Av) (ad:St->Av):Option St:=if(T.ti t).kd=0 then none else match takeV T st (nlS T t x) with
 |some (l,st1)=>match ad st1 with
  | .pa p=>if l.length=(T.ti t).sz then setP T st1 p l else none
  |_=>none
 |none=>none
theorem jNM (b:Nat):∀(vs:List Value) (o:Nat) (w:World),Below 0 w (w.setCells b o vs)
 |[],_,w=>Below.refl _ _
 |v ::r,o,w=>((Below.refl 0 w).setCell (Nat.zero_le _) _).trans (jNM b r (o+1) _)
theorem jNN (b:Nat):∀(vs:List Value) (o:Nat) (w:World) {arr:Array Value}{ty:TypeId}{fz:Nat × Nat},w.heap[b]? =some (.cells arr ty fz)->(w.setCells b o vs).heap[b]? =some (.cells (ovr arr o vs) ty fz)/\(w.setCells b o vs).heap.size=w.heap.size/\∀j,j≠b->(w.setCells b o vs).heap[j]? =w.heap[j]?
 |[],o,w,arr,ty,fz,h=>⟨h,rfl,fun _ _=>rfl⟩
 |v ::r,o,w,arr,ty,fz,h=>by
  have B:(w.setCell ⟨b,o,none⟩ v).heap[b]? =some (.cells (arr.setIfInBounds o v) ty fz):=by
   unfold World.setCell;rw[Array.getElem?_modify,if_pos rfl,h];rfl
  obtain⟨h2,E,G⟩:=jNN b r (o+1) (w.setCell ⟨b,o,none⟩ v) B;refine⟨h2,E.trans (World.size_setCell w _ _),fun j hj=>(G j hj).trans ?_⟩;unfold World.setCell;rw[Array.getElem?_modify,if_neg (fun e=>hj e.symm)]
theorem jQc {w:World}{k:Nat}{arr:Array Value}{ty:TypeId}{fz:Nat × Nat}(h:w.heap[k]? =some (.cells arr ty fz)) (B:okz arr.size fz) {j:Nat}(E:j<arr.size):w.frozen? ⟨k,j,none⟩=false:=by
 obtain⟨lo,hi⟩:=fz;simp[World.frozen?,h];unfold okz at B;simp only at B;omega
section
variable {T:Tb}{c c' c'':Cf}
theorem RL.ones {w:World}{A:Nat->Prop}{l:List C}{us:List Value}{F:List Nat}(h:RL w A l us F):∀u ∈ us,u.oneCell'=true:=by
 induction l generalizing us F with
 |nil=>cases h;exact fun u B=>by cases B
 |cons c l ih=>
  cases h with
  |cons h1 h2=>
   intro u B;rcases List.mem_cons.1 B with rfl|B
   .exact h1.one
   .exact ih h2 u B
theorem jVb {w:World}{g q:Nat}{arr:Array Value}{ty:TypeId}{fz:Nat × Nat}(B:w.heap[g]? =some (.cells arr ty fz)) (J:okz arr.size fz) {us:List Value}(M:q+us.length<=arr.size) (E:∀u ∈ us,u.oneCell'=true) (P:Program):(storeCells ⟨g,q,none⟩ us).run P w= .ok () (w.setCells g q us):=by
 have G:=run_storeCells_cells (P:=P) g q us 0 w (fun j hj=>by rw[cell_of B,Array.getElem?_eq_getElem (by omega)];rfl) (fun j hj=>jQc B J (by omega)) E;simpa using G
theorem Ok.setP (B:Ok T c) {X0 Fs:List Nat}(G:c.X=Fs ++X0) {p:Pth}{l:List C}{us:List Value}(hl:RL c.w c.A l us Fs) {st':St}(h:V.setP T c.st p l=some st') {g q:Nat}(Z:∀w',Agr (c.fp p.r) c.w w'->ad w' (c.mo p.r) p.o p.p=some (g,q)) :
 ∃mo' fp' arr ty fz,c.w.heap[g]? =some (.cells arr ty fz)/\okz arr.size fz/\q+us.length<=arr.size/\Ok T ⟨c.w.setCells g q us,c.A,st',mo',fp',c.a,X0⟩/\Stp T c ⟨c.w.setCells g q us,c.A,st',mo',fp',c.a,X0⟩:=by
 unfold V.setP at h
 split at h
 .rename_i hp
  rw[Bool.and_eq_true]at hp;have k1:p.r<1000000:=Nat.le_of_ble_eq_true hp.1
  split at h
  .rename_i R hR
   split at h
   .rename_i P
    rw[Bool.and_eq_true]at P;obtain⟨P,h9⟩:=P;have h9:R.kd≠9:=by simpa using h9
    split at h
    .rename_i sub hg
     have hS:=B.sx.sr;have k2:=hS.rts _ _ hR;have h1:=hS.nd _ _ hR;have O:=hS.fa _ _ hR P
     have hv:p.p=[]->isV R=false:=fun e=>by
      have:=hp.2;unfold inM at this;rw[e]at this;simp only[hR]at this;simpa using this
     obtain⟨g1,a1,J,k4,h4,F1,Fo,F2,s1,s2,s3,s4,s5,s6,E,Y,s9,k3⟩:=k2.lens h1 hv h9 hg;have e:=Z c.w (jJQ _ _);rw[s1]at e;cases e;have h7:=hl.len;obtain⟨b1,b2,b3⟩:=jNN g us q c.w s2;have hn:=B.sx.nd;rw[G,List.nodup_append]at hn;have h6:∀k ∈ Fs,k≠g:=fun k hk e=>B.sx.dj k (by rw[G];simp[hk]) p.r (by rw[E,e];simp[Y]);have h8:RL (c.w.setCells g q us) c.A l us Fs:=hl.st (fun k hk=>⟨hk,b3 k fun e=>O g (by rw[E];simp[Y]) (by rw[<-e];exact hk)⟩) fun k hk=>b3 k (h6 k hk)
     have hd:((ovr J q us).toList.drop q).take l.length=us:=by
      rw[jM1 us q J (by omega),List.append_assoc,List.drop_append_of_le_length (by simp;omega),List.drop_take_self];simp[h7]
     obtain⟨h3,k5,t1,t2,t3,t4,t5⟩:=k3 (c.w.setCells g q us) c.A l Fs ⟨rfl,⟨ovr J q us,b1,jMw _ _ _,fun i hi=>by rw[jPo us q J i (by omega),if_neg (by omega)],by rw[hd];exact h8⟩,fun k hk=>⟨hk,b3 k fun e=>O g (by rw[E];simp[Y]) (by rw[<-e];exact hk)⟩,fun k hk hne=>b3 k hne⟩;rw[t1]at h;cases h;have M:=h1;rw[E,List.append_assoc,List.nodup_append]at M
     have h5:(F1 ++Fs ++F2).Nodup:=by
      rw[List.append_assoc,List.nodup_append];refine⟨M.1,?_,fun x hx y hy=>?_⟩
      .rw[List.nodup_append]
       exact⟨hn.1,(List.nodup_append.1 M.2.1).2.1,fun x hx y hy e=>B.sx.dj x (by rw[G];simp[hx]) p.r (by rw[E,e];simp[hy])⟩
      .rcases List.mem_append.1 hy with h|h
       .exact fun e=>B.sx.dj y (by rw[G];simp[h]) p.r (by rw[E,<-e];simp[hx])
       .exact M.2.2 x hx y (by simp[h])
     obtain⟨d1,d2⟩:=B.turn (o:=p.o) (n:=if p.p.isEmpty then l.length else 0) (w':=c.w.setCells g q us) (A':=c.A) (X':=X0) (R':=⟨R.kd,h3⟩) (m':={c.mo p.r with vs:=k5}) (F':=F1 ++Fs ++F2) hR P rfl t2 rfl t3 (fun i hi=>t5 i (by
      cases hpp :p.p with
      |nil=>rw[hpp]at hi;exact .inr hi
      |cons x y=>exact .inl (by simp))) k1 (fun k hk hne _=>b3 k fun e=>hne (by rw[E,e];simp[Y])) (jNM _ _ _ _) (fun k hk=>hk) (fun k hk=>⟨.inl hk,by rw[b2];exact B.al k hk⟩) t4 h5
      (fun k hk=>by
       simp only[List.mem_append]at hk;rcases hk with(h|h)|h
       .exact O k (by rw[E];simp[h])
       .exact B.sx.na k (by rw[G];simp[h])
       .exact O k (by rw[E];simp[h]))
      (fun k hk=>by
       simp only[List.mem_append]at hk;rcases hk with(h|h)|h
       .exact .inl (by rw[E];simp[h])
       .exact .inr (.inl (by rw[G];simp[h]))
       .exact .inl (by rw[E];simp[h]))
      hn.2.1 (fun k hk=>B.sx.na k (by rw[G];simp[hk]))
      (fun k hk=>⟨.inr (.inl (by rw[G];simp[hk])),fun h=>by
       simp only[List.mem_append]at h;rcases h with(h|h)|h
       .exact B.sx.dj k (by rw[G];simp[hk]) p.r (by rw[E];simp[h])
       .exact hn.2.2 k h k hk rfl
       .exact B.sx.dj k (by rw[G];simp[hk]) p.r (by rw[E];simp[h]),by rw[b2];exact B.sx.lt k (by rw[G];simp[hk])⟩)
     exact⟨_,_,J,k4,h4,s2,s3 P,by omega,d1,d2⟩
    .cases h
   .cases h
  .cases h
 .cases h
theorem jWS {T:Tb}{w:World}{A:Nat->Prop}{mo:Nat->Mo}{fp:Nat->List Nat}{t:TypeId}{x:Av}{u:Value}(h:TV w A mo fp x u):TV w A mo fp (nlS T t x) u:=by
 unfold nlS
 split
 .have h:u= .slice none 0 0:=h
  rw[h];exact RC.rn true _
 .exact h
theorem Ok.store (M:Ok T c) {t:TypeId}{x:Av}{u ua:Value}{B:St->Av}{st':St}(hx:TV c.w c.A c.mo c.fp x u) (E:∀c1:Cf,Ok T c1->c1.a=c.a->TV c1.w c1.A c1.mo c1.fp (B c1.st) ua) (h:jM3 T c.st t x B=some st') :
 ∃c',Ok T c'/\Stp T c c'/\c'.st=st'/\c'.a=c.a/\c'.X=c.X/\(Instr.storeAt t ua u).run T.P c.w= .ok () c'.w:=by
 unfold jM3 at h
 split at h
 .cases h
 .rename_i hk
  obtain⟨k,hk⟩:∃k,(T.ti t).kd=k+1:=⟨(T.ti t).kd-1,by omega⟩
  obtain⟨i,d,i1,i2,i3,i4,i5,i6,i7⟩:=inv hk
  split at h
  .rename_i l st1 ht
   obtain⟨h3,h1,Fs,Y,k2,J,_⟩:=M.takeV (jWS hx) ht;have G:=E _ Y rfl
   split at h
   .rename_i p hp
    rw[hp]at G
    split at h
    .rename_i hlen
     obtain⟨g,q,Z,rfl⟩:=G;obtain⟨mo',fp',arr,ty,fz,z1,z2,z3,z4,z5⟩:=Y.setP (X0:=c.X) (Fs:=Fs) rfl J h Z
     have V:u.cells.size=(T.ti t).sz:=by
      have:l.length=u.cells.size:=J.len.trans Array.length_toList;omega
     have O:=jVb z1 z2 z3 J.ones T.P;exact⟨_,z4,k2.trans z5,rfl,rfl,rfl,by simp[Instr.storeAt,Instr.sureAddr,storeVar,sizeOf,typeInfo,i1,<-i3,V,O]⟩
    .cases h
   .cases h
  .cases h
theorem Ok.box (B:Ok T c) {t:TypeId}{d:Nat}{x v:Av}{u:Value}{st':St}(hx:TV c.w c.A c.mo c.fp x u) (h:jPx T c.st d x=some (v,st')):∃c' v',Ok T c'/\Stp T c c'/\c'.st=st'/\c'.a=c.a/\c'.X=c.X/\(Instr.box t u).run T.P c.w= .ok v' c'.w/\TV c'.w c'.A c'.mo c'.fp v v':=by
 unfold jPx at h
 split at h
 .rename_i l st1 ht
  obtain⟨V,O,Fs,E,G,J,_⟩:=B.takeV hx ht;obtain⟨mo',fp',M,z2,z3⟩:=E.mkBox (X0:=c.X) rfl J h t;exact⟨_,_,M,G.trans z2,rfl,rfl,rfl,by simp[Instr.box,newVar,newRow],z3⟩
 .cases h
theorem Ok.alloc (B:Ok T c) {t:TypeId}{d:Nat}{v:Av}{st':St}(h:jPB T c.st d t=some (v,st')):∃c' v',Ok T c'/\Stp T c c'/\c'.st=st'/\c'.a=c.a/\c'.X=c.X/\(∀(rc:Operand->Value) (o:Oper),o.op= .alloc t->(execOp rc o).run T.P c.w= .ok (.value v') c'.w)/\TV c'.w c'.A c'.mo c'.fp v v':=by
 unfold jPB at h
 split at h
 .rename_i z hz
  split at h
  .cases h
  .rename_i hk
   obtain⟨k,hk⟩:∃k,(T.ti t).kd=k+1:=⟨(T.ti t).kd-1,by omega⟩
   obtain⟨i,d',J,i2,i3,i4,i5,O,V⟩:=inv hk;obtain⟨u,G,E⟩:=i5 z hz;obtain⟨mo',fp',M,z2,z3⟩:=B.mkBox (X0:=c.X) (Fs:=[]) rfl (jMg E) h t;exact⟨_,_,M,z2,rfl,rfl,rfl,fun rc o ho=>by simp[execOp,ho,Instr.alloc,zeroValue,typeInfo,J,G,newVar,newRow],z3⟩
 .cases h
end
section
variable {w w':World}{A A':Nat->Prop}
theorem RE.len {z:Nat}:∀{l:List (List C)}{vs:List Value}{F:List Nat},RE w A z l vs F->l.length*z<=vs.length
 |[],vs,F,h=>by simp
 |e ::l,vs,F,h=>by
  cases h with
  |cons h1 h2 h3=>
   have:=RE.len h3;rw[List.length_drop]at this;rw[List.length_cons,Nat.add_mul,Nat.one_mul];omega
theorem RE.of {z:Nat}:∀(l:List (List C)) {vs:List Value}{F:List Nat},RL w A l.flatten vs F->(∀e ∈ l,e.length=z)->∀rest,RE w A z l (vs ++rest) F
 |[],vs,F,h,_,rest=>by
  rw[List.flatten_nil]at h;cases h;exact .nil _ _
 |e ::l,vs,F,h,hz,rest=>by
  rw[List.flatten_cons]at h;obtain⟨G,J,rfl,B,h2⟩:=h.split;have E:=hz e (List.mem_cons_self ..);have hl:=B.len;rw[List.length_take]at hl;rw[E]at B h2;refine .cons (by simp;omega) (by rw[List.take_append_of_le_length (by omega)];exact B) ?_;rw[List.drop_append_of_le_length (by omega)];exact RE.of l h2 (fun e' he'=>hz e' (List.mem_cons_of_mem _ he')) rest
theorem RE.ext {z:Nat}:∀{l:List (List C)}{vs vs':List Value}{F:List Nat},RE w A z l vs F->(∀i,i<l.length*z->vs'[i]? =vs[i]?)->l.length*z<=vs'.length->RE w A z l vs' F
 |[],vs,vs',F,h,_,_=>by cases h;exact .nil _ _
 |e ::l,vs,vs',F,h,hi,hl=>by
  cases h with
  |cons h1 h2 h3=>
   rw[List.length_cons,Nat.add_mul,Nat.one_mul]at hi hl
   have E:vs'.take z=vs.take z:=List.ext_getElem? fun i=>by
    rw[List.getElem?_take,List.getElem?_take]
    by_cases B:i<z
    .rw[if_pos B,if_pos B];exact hi i (by omega)
    .rw[if_neg B,if_neg B]
   refine .cons (by omega) (by rw[E];exact h2) (RE.ext h3 (fun i hi'=>?_) (by rw[List.length_drop];omega));rw[List.getElem?_drop,List.getElem?_drop];exact hi _ (by omega)
theorem RE.app {z:Nat}:∀{l l2:List (List C)}{vs us:List Value}{F F2:List Nat},RE w A z l vs F->RE w A z l2 us F2->vs.length=l.length*z->RE w A z (l ++l2) (vs ++us) (F ++F2)
 |[],l2,vs,us,F,F2,h,h2,hl=>by
  cases h;have:vs=[]:=List.eq_nil_of_length_eq_zero (by simpa using hl);subst this;exact h2
 |e ::l,l2,vs,us,F,F2,h,h',hl=>by
  cases h with
  |cons h1 h2 h3=>
   rw[List.length_cons,Nat.add_mul,Nat.one_mul]at hl;rw[List.append_assoc];refine .cons (by simp;omega) (by rw[List.take_append_of_le_length (by omega)];exact h2) ?_;rw[List.drop_append_of_le_length (by omega)];exact RE.app h3 h' (by rw[List.length_drop];omega)
theorem RE.flat {z:Nat}:∀{l:List (List C)}{vs:List Value}{F:List Nat},RE w A z l vs F->RL w A l.flatten (vs.take (l.length*z)) F
 |[],vs,F,h=>by cases h;simp;exact .nil
 |e ::l,vs,F,h=>by
  cases h with
  |cons h1 h2 h3=>
   rw[List.flatten_cons,List.length_cons,Nat.add_mul,Nat.one_mul,Nat.add_comm,List.take_add];exact RL.app h2 (RE.flat h3)
theorem RE.lens' {z:Nat}:∀{l:List (List C)}{vs:List Value}{F:List Nat},RE w A z l vs F->∀e ∈ l,e.length=z
 |[],vs,F,h=>fun e he=>by cases he
 |e ::l,vs,F,h=>by
  cases h with
  |cons h1 h2 h3=>
   intro E B;rcases List.mem_cons.1 B with rfl|B
   .have:=h2.len
    rw[List.length_take]at this;omega
   .exact RE.lens' h3 E B
end
section
variable {T:Tb}{w:World}{A:Nat->Prop}
theorem jZW {ts tx ty:TypeId}(hk:(T.ti ts).kd=1) {ze:List C}(k4:(T.ti (T.ti ts).el).kd≠0) (r5:(T.ti (T.ti ts).el).z=some ze) (r4:ze.length=(T.ti (T.ti ts).el).sz) (k3:0<(T.ti (T.ti ts).el).sz) (q9:(T.ti (T.ti ts).el).bs<=25000)
 {l E:List (List C)}{u vx:Value}{F V:List Nat}{zz:Nat}(hr:RC w A (.r true zz l) u F) (k2:zz=(T.ti (T.ti ts).el).sz\/(zz=0/\l=[])) (hA:∀k,A k->k<w.heap.size) (k8:∀g ∈ F,¬A g) (h8:∀g ∈ V,g ∉ F) (M:F.Nodup)
 {B:List Value}(hs:Src T.P (T.ti (T.ti ts).el).sz tx vx E.length B w) (hn:RL w A E.flatten B V) (k1:∀e ∈ E,e.length=(T.ti (T.ti ts).el).sz) (k5:l.length+E.length<=4000000000) :
 ∃v' w' F',(Builtin.append_ #[ts,tx] ty #[u,vx]).run T.P w= .ok v' w'/\RC w' A (.r true (T.ti (T.ti ts).el).sz (l ++E)) v' F'/\Below 0 w w'/\(∀k,k<w.heap.size->k ∉ F->w'.heap[k]? =w.heap[k]?)/\(∀g ∈ F',g ∈ F\/g ∈ V\/(g=w.heap.size/\g<w'.heap.size))/\(V.Nodup->F'.Nodup):=by
 obtain⟨i,d,i1,i2,i3,i4,i5,i6,rfl⟩:=inv hk
 obtain⟨ke,k4⟩:∃k,(T.ti (T.ti ts).el).kd=k+1:=⟨(T.ti (T.ti ts).el).kd-1,by omega⟩
 obtain⟨ie,d',j1,j2,j3,j4,j5,j6,j7⟩:=inv k4;obtain⟨Z,zu,x0⟩:=j5 ze r5
 have r3:Z.cells.size=(T.ti (T.ti ts).el).sz:=by
  have:ze.length=Z.cells.size:=(jMg (w:=w) (A:=A) x0).len.trans Array.length_toList;omega
 obtain⟨sz,v8⟩:∃sz,(T.ti (T.ti ts).el).sz=sz:=⟨_,rfl⟩
 rw[v8]at r4 k3 k2 hs k1 r3 j3 ⊢;have k6:=hs.newsLen
 by_cases r1:E=[]
 .subst r1
  have:B=[]:=List.eq_nil_of_length_eq_zero (by simpa using k6);subst this;rw[List.length_nil]at hs;rw[List.append_nil]
  have:∃base len cap,u= .slice base len cap/\len<=cap:=by
   cases hr with
   |rn=>exact⟨_,_,_,rfl,Nat.le_refl _⟩
   |ro _ _ _ _ h5 _=>exact⟨_,_,_,rfl,h5⟩
  obtain⟨base,len,cap,rfl,v6⟩:=this
  have v7:RC w A (.r true sz l) (.slice base len cap) F:=by
   rcases k2 with rfl|⟨rfl,rfl⟩
   .exact hr
   .cases hr with
    |rn=>exact .rn _ _
    |ro h1 h2 h3=>exact absurd h3 (Nat.lt_irrefl _)
  exact⟨_,w,F,run_append_nothing w ts tx ty (T.ti ts).el ie i2 j1 base len cap v6 vx (by rw[<-j3];exact hs),v7,Below.refl _ _,fun _ _ _=>rfl,fun g O=>.inl O,fun _=>M⟩
 .have hl2:0<E.length:=List.length_pos_iff.2 r1
  have grow:∀(base:Option Addr) (cap:Nat) (G:List Value) (Fl:List Nat),u= .slice base l.length cap->(∀g ∈ Fl,g ∈ F)->Fl.Nodup->cap<l.length+E.length->G.length=l.length*sz->(Builtin.firstCells sz l.length (.slice base l.length cap)).run T.P w.drew= .ok G.toArray w.drew->RE w A sz l G Fl->
   ∃v' w' F',(Builtin.append_ #[ts,tx] ty #[u,vx]).run T.P w= .ok v' w'/\RC w' A (.r true sz (l ++E)) v' F'/\Below 0 w w'/\(∀k,k<w.heap.size->k ∉ F->w'.heap[k]? =w.heap[k]?)/\(∀g ∈ F',g ∈ F\/g ∈ V\/(g=w.heap.size/\g<w'.heap.size))/\(V.Nodup->F'.Nodup):=by
   intro base cap G Fl hu k9 r6 O r2 r8 k7;subst hu;have x1:(l.length+E.length)*ie.bytes<=100000000000000:=by rw[<-j4];exact Nat.mul_le_mul k5 q9
   have r7:=growslice_fits (bytes:=ie.bytes) O (by omega);have Y:=run_append_grow_src (P:=T.P) (w:=w) ts tx ty (T.ti ts).el ie Z i2 j1 zu base l.length cap G (by rw[<-j3];exact r8) vx E.length B (by rw[<-j3];exact hs) O (by omega) r7;have v1:=grownCap_ge w (l.length+E.length) cap (T.ti ts).el
   have J:∀k,k<w.heap.size->(w.drew.alloc (.cells ((G ++B).toArray ++Builtin.zeroCells Z.cells (grownCap w (l.length+E.length) cap (T.ti ts).el-(l.length+E.length))) (T.ti ts).el)).heap[k]? =w.heap[k]?:=fun k hk=>by
    show((w.drew.heap).push _)[k]? =_;rw[Array.getElem?_push,if_neg (by show k≠w.heap.size;omega)];rfl
   have h7:∀k,A k->A k/\(w.drew.alloc (.cells ((G ++B).toArray ++Builtin.zeroCells Z.cells (grownCap w (l.length+E.length) cap (T.ti ts).el-(l.length+E.length))) (T.ti ts).el)).heap[k]? =w.heap[k]?:=fun k hk=>⟨hk,J k (hA k hk)⟩
   have h9:RC (w.drew.alloc (.cells ((G ++B).toArray ++Builtin.zeroCells Z.cells (grownCap w (l.length+E.length) cap (T.ti ts).el-(l.length+E.length))) (T.ti ts).el)) A (.r true sz (l ++E)) (.slice (some ⟨w.heap.size,0,none⟩) (l ++E).length (grownCap w (l.length+E.length) cap (T.ti ts).el)) (w.heap.size ::(Fl ++V)):=by
    refine .ro (z:=sz) (fz:=(0,0)) (arr:=(G ++B).toArray ++Builtin.zeroCells Z.cells (grownCap w (l.length+E.length) cap (T.ti ts).el-(l.length+E.length))) (ty:=(T.ti ts).el) (by show(w.heap.push _)[w.heap.size]? =_;rw[Array.getElem?_push_size]) (.inl rfl) k3 ?_ (by rw[List.length_append];exact v1) ?_
    .simp only[Array.size_append,List.size_toArray,List.length_append,r2,k6,Builtin.zeroCells,Array.size_map,Array.size_range,r3]
     rw[<-Nat.add_mul,<-Nat.add_mul,show l.length+E.length+(grownCap w (l.length+E.length) cap (T.ti ts).el-(l.length+E.length))=grownCap w (l.length+E.length) cap (T.ti ts).el by omega];exact Nat.le_refl _
    .have h1:=(RE.app (k7.st h7 fun k hk=>J k (k7.lt k hk)) (RE.of E (hn.st h7 fun k hk=>J k (hn.lt k hk)) k1 []) r2)
     have:((G ++B).toArray ++Builtin.zeroCells Z.cells (grownCap w (l.length+E.length) cap (T.ti ts).el-(l.length+E.length))).toList=(G ++(B ++[])) ++(Builtin.zeroCells Z.cells (grownCap w (l.length+E.length) cap (T.ti ts).el-(l.length+E.length))).toList:=by simp
     rw[this];refine h1.ext (fun i hi=>?_) ?_
     .rw[List.getElem?_append_left]
      have:=h1.len;omega
     .exact Nat.le_trans h1.len (by rw[List.length_append (as:=G ++(B ++[]))];exact Nat.le_add_right _ _)
   rw[List.length_append]at h9;refine⟨_,_,_,Y,h9,(Below.refl 0 w).drew.alloc (Nat.zero_le _) _,fun k hk _=>J k hk,fun g O=>?_,fun h2=>?_⟩
   .rcases List.mem_cons.1 O with rfl|O
    .refine .inr (.inr ⟨rfl,?_⟩)
     show w.heap.size<(w.heap.push _).size;simp
    .rcases List.mem_append.1 O with h|h
     .exact .inl (k9 g h)
     .exact .inr (.inl h)
   .rw[List.nodup_cons,List.nodup_append]
    refine⟨fun h=>?_,r6,h2,fun x hx y hy e=>h8 y hy (by rw[<-e];exact k9 x hx)⟩;rcases List.mem_append.1 h with h|h
    .have:=k7.lt _ h;omega
    .have:=hn.lt _ h;omega
  have r9:(l=[]/\u= .slice none 0 0/\F=[])\/∃g cap arr ty fz Fl,u= .slice (some ⟨g,0,none⟩) l.length cap/\F=g ::Fl/\w.heap[g]? =some (.cells arr ty fz)/\okz arr.size fz/\cap*sz<=arr.size/\l.length<=cap/\RE w A sz l arr.toList Fl:=by
   rcases k2 with rfl|⟨rfl,rfl⟩
   .cases hr with
    |rn=>exact .inl ⟨rfl,rfl,rfl⟩
    |ro h1 h2 h3 h4 h5 h6=>exact .inr ⟨_,_,_,_,_,_,rfl,rfl,h1,h2,h4,h5,h6⟩
   .cases hr with
    |rn=>exact .inl ⟨rfl,rfl,rfl⟩
    |ro h1 h2 h3=>exact absurd h3 (Nat.lt_irrefl _)
  .rcases r9 with⟨rfl,rfl,rfl⟩|⟨g,cap,arr,tyb,fz,Fl,rfl,rfl,h1,h2,h3,h4,h5⟩
   .exact grow none 0 [] [] rfl (fun _ h=>by cases h) List.nodup_nil (by simpa using hl2) (by simp) (by simp[Builtin.firstCells]) (.nil _ _)
   .have hall:l.length*sz<=arr.size:=Nat.le_trans (Nat.mul_le_mul_right _ h4) h3
    rw[List.nodup_cons]at M
    by_cases O:cap<l.length+E.length
    .refine grow (some ⟨g,0,none⟩) cap (arr.toList.take (l.length*sz)) Fl rfl (fun k hk=>List.mem_cons_of_mem _ hk) M.2 O (by simp;omega) ?_ (h5.ext (fun i hi=>by rw[List.getElem?_take,if_pos hi]) (by simp;omega))
     refine run_firstCells_some w.drew sz l.length _ l.length cap _ (by simp;omega) fun j v hv=>?_;rw[List.getElem?_take]at hv
     split at hv
     .rw[Addr.add_lit,cell_of (w:=w.drew) h1,Nat.zero_add]
      simpa using hv
     .cases hv
    .have hcap:l.length*sz+B.length<=arr.size:=by
      rw[k6,<-Nat.add_mul];exact Nat.le_trans (Nat.mul_le_mul_right _ (by omega)) h3
     have Y:=run_append_room_src (P:=T.P) (w:=w) ts tx ty (T.ti ts).el ie i2 j1 g 0 l.length cap vx E.length B (by rw[<-j3];exact hs) (by omega) (fun j hj=>by rw[<-j3,cell_of h1,Array.getElem?_eq_getElem (by omega)];rfl) (fun j hj=>by rw[<-j3];exact jQc h1 h2 (by omega));rw[<-j3,Nat.zero_add]at Y;obtain⟨b1,b2,b3⟩:=jNN g B (l.length*sz) w h1
     have h7:∀k,A k->A k/\(w.setCells g (l.length*sz) B).heap[k]? =w.heap[k]?:=fun k hk=>⟨hk,b3 k fun e=>k8 g (List.mem_cons_self ..) (by rw[<-e];exact hk)⟩
     have h9:RC (w.setCells g (l.length*sz) B) A (.r true sz (l ++E)) (.slice (some ⟨g,0,none⟩) (l ++E).length cap) (g ::(Fl ++V)):=by
      refine .ro (z:=sz) b1 (by rw[jMw];exact h2) k3 (by rw[jMw];exact h3) (by rw[List.length_append];omega) ?_;have q1:RE (w.setCells g (l.length*sz) B) A sz l (arr.toList.take (l.length*sz)) Fl:=(h5.st h7 fun k hk=>b3 k fun e=>M.1 (by rw[<-e];exact hk)).ext (fun i hi=>by rw[List.getElem?_take,if_pos hi]) (by simp;omega);have q2:=RE.of E (hn.st h7 fun k hk=>b3 k fun e=>h8 k hk (by rw[e];exact List.mem_cons_self ..)) k1 (arr.toList.drop (l.length*sz+B.length));have:=RE.app q1 q2 (by simp;omega);rw[jM1 B _ arr hcap,List.append_assoc];exact this
     rw[List.length_append]at h9;refine⟨_,_,_,Y,h9,jNM _ _ _ _,fun k hk hne=>b3 k fun e=>hne (by rw[e];exact List.mem_cons_self ..),fun k hk=>?_,fun h2'=>?_⟩
     .rcases List.mem_cons.1 hk with rfl|hk
      .exact .inl (List.mem_cons_self ..)
      .rcases List.mem_append.1 hk with h|h
       .exact .inl (List.mem_cons_of_mem _ h)
       .exact .inr (.inl h)
     .rw[List.nodup_cons,List.nodup_append]
      refine⟨fun h=>?_,M.2,h2',fun x hx y hy e=>h8 y hy (by rw[<-e];exact List.mem_cons_of_mem _ hx)⟩;rcases List.mem_append.1 h with h|h
      .exact M.1 h
      .exact h8 g h (List.mem_cons_self ..)
end
def jK4 (x:Av) (rt:Nat->Option Rt):Option (Nat × List (List C)):=match x with
 | .nl=>some (0,[])
 | .c (.r _ zz l)=>some (zz,l)
 | .lo p=>match gP rt p 1 with
   |some [.r true zz l]=>some (zz,l)
   |_=>none
 | .sb p z a b=>match gP rt p 1 with
   |some [.r true zz l]=>if zz=z then some (zz,(l.drop a).take (b-a)) else none
   |_=>none
 |_=>none
def lone (rt:Nat->Option Rt) (p:Pth):Bool:=p.p.isEmpty && p.o == 0 && match rt p.r with
 |some R=>R.kd == 2 && R.cs.length == 1
 |none=>false
def jNw (s:ByteArray):List (List C):=s.data.toList.map fun b=>[.i .u8 (b.toNat:Nat)]
def jLk (T:Tb) (st:St) (z:Nat) (x:Av):Option (List (List C) × St):=match x with
 | .lo p=>if lone (lkr T st.rt) p then(match takeV T st (.lo p) with
  |some ([.r true zz l],st2)=>if zz=z then some (l,st2) else none
  |_=>none)
   else(match jK4 (.lo p) (lkr T st.rt) with
    |some (zz,l)=>if(zz=z\/l=[])/\(l.all fun e=>e.all plain)=true then some (l,st) else none
    |none=>none)
 | .c (.s s)=>if z=1 then some (jNw s,st) else none
 |x=>match jK4 x (lkr T st.rt) with
  |some (zz,l)=>if(zz=z\/l=[])/\(l.all fun e=>e.all plain)=true then some (l,st) else none
  |none=>none
def jM6 (T:Tb) (st:St) (d:Nat) (ts tx:TypeId) (s:Av) (x:St->Av):Option (Av × St):=
 if(T.ti ts).kd=1/\(T.ti (T.ti ts).el).kd≠0/\0<(T.ti (T.ti ts).el).sz/\(T.ti (T.ti ts).el).bs<=25000/\((T.ti tx).kd=1\/(T.ti tx).kd=4) then match (T.ti (T.ti ts).el).z with
 |some ze=>if ze.length=(T.ti (T.ti ts).el).sz then match takeV T st s with
  |some ([.r true zz l],st1)=>if zz=(T.ti (T.ti ts).el).sz\/(zz=0/\l=[]) then match jLk T st1 (T.ti (T.ti ts).el).sz (x st1) with
   |some (l2,st2)=>if l.length+l2.length<=4000000000 then mkVal T st2 d (.r true (T.ti (T.ti ts).el).sz (l ++l2)) else none
   |none=>none
   else none
  |_=>none
  else none
 |none=>none
 else none
section
variable {T:Tb}{c c' c'':Cf}
theorem jOW {w:World}{A:Nat->Prop}{z:Nat}{tx:TypeId}(J:(T.ti tx).kd=1\/(T.ti tx).kd=4) (V:0<z) {l:List (List C)}{u:Value}{base:Option Addr}{cap:Nat}(G:u= .slice base l.length cap) {F:List Nat}
 (h:(l=[]/\F=[])\/∃g o arr ty fz,base=some ⟨g,o,none⟩/\w.heap[g]? =some (.cells arr ty fz)/\o+l.length*z<=arr.size/\RE w A z l (arr.toList.drop o) F):∃news,Src T.P z tx u l.length news w/\RL w A l.flatten news F/\∀e ∈ l,e.length=z:=by
 subst G
 have E:(∃e',T.P.underlying tx=some (.slice e'))\/T.P.underlying tx=some .string:=by
  rcases J with h|h
  .obtain⟨i,d,i1,i2,i3,i4,i5,i6,rfl⟩:=inv h
   exact .inl ⟨_,i2⟩
  .obtain⟨i,d,i1,i2,i3,i4,i5,i6,rfl⟩:=inv h
   exact .inr i2
 rcases h with⟨rfl,rfl⟩|⟨g,o,arr,ty,fz,rfl,O,h2,M⟩
 .refine⟨[],⟨E,fun _=>rfl,?_,?_,by simp,fun u G=>by cases G⟩,.nil,fun e he=>by cases he⟩
  all_goals cases base <;> simp[Builtin.firstCells,loadCells,loadCellsFrom]
 .have hf:=M.flat
  have B:∀w':World,w'.heap=w.heap->∀j v,((arr.toList.drop o).take (l.length*z))[j]? =some v->w'.cell? ((⟨g,o,none⟩:Addr).add j)=some v:=fun w' hw j v hv=>by
   rw[List.getElem?_take]at hv
   split at hv
   .rw[List.getElem?_drop,Array.getElem?_toList]at hv
    rw[Addr.add_lit,cell_of (w:=w') (by rw[hw];exact O)];exact hv
   .cases hv
  exact⟨(arr.toList.drop o).take (l.length*z),⟨E,fun _=>rfl,run_firstCells_some w z l.length _ l.length cap _ (by simp;omega) (B w rfl),run_firstCells_some w.drew z l.length _ l.length cap _ (by simp;omega) (B w.drew rfl),by simp;omega,hf.ones⟩,hf,RE.lens' M⟩
theorem RE.pl {w:World}{A:Nat->Prop}{z:Nat}:∀{l:List (List C)}{vs:List Value}{F:List Nat},RE w A z l vs F->(l.all fun e=>e.all plain)=true->F=[]
 |[],vs,F,h,_=>by cases h;rfl
 |e ::l,vs,F,h,hp=>by
  rw[List.all_cons,Bool.and_eq_true]at hp
  cases h with
  |cons h1 h2 h3=>rw[h2.pl hp.1,RE.pl h3 hp.2];rfl
theorem jR0 (P:Ok T c) {x:Av}{u:Value}{z J:Nat}{l:List (List C)}(hx:TV c.w c.A c.mo c.fp x u) (h:jK4 x (lkr T c.st.rt)=some (J,l)) (G:J=z\/l=[]):∃base cap F,u= .slice base l.length cap/\((l=[]/\F=[])\/∃g o arr ty fz,base=some ⟨g,o,none⟩/\c.w.heap[g]? =some (.cells arr ty fz)/\o+l.length*z<=arr.size/\RE c.w c.A z l (arr.toList.drop o) F):=by
 have O:=P.sx.sr
 have B:∀{base:Option Addr}{cap:Nat},l=[]->u= .slice base l.length cap->∃base cap F,u= .slice base l.length cap/\((l=[]/\F=[])\/∃g o arr ty fz,base=some ⟨g,o,none⟩/\c.w.heap[g]? =some (.cells arr ty fz)/\o+l.length*z<=arr.size/\RE c.w c.A z l (arr.toList.drop o) F):=fun M e2=>⟨_,_,[],e2,.inl ⟨M,rfl⟩⟩
 unfold jK4 at h
 split at h
 .cases h
  have hx:u= .slice none 0 0:=hx;exact B rfl hx
 .rename_i o zz' l'
  cases h;have hx:RC c.w c.A (.r o J l) u []:=hx;generalize hF:([]:List Nat)=F at hx
  cases hx with
  |rn=>exact B rfl rfl
  |re _ a cap=>exact B rfl rfl
  |ro=>cases hF
  |@rf g off _ _ cap arr ty fz b1 b2 b3 b4 b5 b6=>
   rcases G with rfl|G
   .exact⟨_,_,[],rfl,.inr ⟨_,_,_,_,_,rfl,b2,b4,b6⟩⟩
   .exact B G rfl
 .rename_i p
  split at h
  .rename_i zz' l' hg
   cases h;obtain⟨v,F,q1,q2,q3⟩:=jgY O hg;have:=jNb hx q3;subst this
   cases q1 with
   |rn=>exact B rfl rfl
   |@ro g _ F' _ cap arr ty fz b1 b2 b3 b4 b5 b6=>
    rcases G with rfl|G
    .refine⟨_,_,F',rfl,.inr ⟨g,0,arr,ty,fz,rfl,b1,?_,b6⟩⟩
     rw[Nat.zero_add];exact Nat.le_trans (Nat.mul_le_mul_right _ b5) b4
    .exact B G rfl
  .cases h
 .rename_i p z' ia ib
  split at h
  .rename_i zz' l' hg
   split at h
   .rename_i hzz
    subst hzz;cases h;obtain⟨v,F,q1,q2,q3⟩:=jgY O hg;obtain⟨g,len,cap,Z,r2,r3,r4,rfl⟩:=hx;have M:=Z c.w (jJQ _ _);rw[q3 c.w (jJQ _ _)]at M;cases M
    cases q1 with
    |@ro _ _ F' _ _ arr ty fz b1 b2 b3 b4 b5 b6=>
     have E:((l'.drop ia).take (ib-ia)).length=ib-ia:=by
      rw[List.length_take,List.length_drop];omega
     by_cases V:cap=ia
     .exact B (List.eq_nil_of_length_eq_zero (by rw[E];omega)) (by rw[E])
     .rcases G with rfl|G
      .obtain⟨F1,s1,s2⟩:=RE.drp' ia b6
       obtain⟨Y,t1,t2⟩:=RE.tk' (ib-ia) s1;refine⟨_,_,Y,by rw[E],.inr ⟨g,ia*J,arr,ty,fz,by rw[if_neg V],b1,?_,t1⟩⟩;rw[E,<-Nat.add_mul,show ia+(ib-ia)=ib by omega];exact Nat.le_trans (Nat.mul_le_mul_right _ (by omega)) b4
      .exact B G (by rw[E])
   .cases h
  .cases h
 .cases h
theorem RL.one1 {w:World}{A:Nat->Prop}{x:C}{us:List Value}{F:List Nat}(h:RL w A [x] us F):∃u,us=[u]/\RC w A x u F:=by
 cases h with
 |@cons _ v F1 _ vs F2 h1 h2=>cases h2;exact⟨v,rfl,by rw[List.append_nil];exact h1⟩
theorem Ok.src (G:Ok T c) {tx:TypeId}(E:(T.ti tx).kd=1\/(T.ti tx).kd=4) {z:Nat}(O:0<z) {x:Av}{u:Value}{l:List (List C)}{st':St}(hx:TV c.w c.A c.mo c.fp x u) (h:jLk T c.st z x=some (l,st')) :
 ∃mo' fp' Y news Fe,Ok T ⟨c.w,c.A,st',mo',fp',c.a,Y ++c.X⟩/\Stp T c ⟨c.w,c.A,st',mo',fp',c.a,Y ++c.X⟩/\Src T.P z tx u l.length news c.w/\RL c.w c.A l.flatten news Fe/\(∀e ∈ l,e.length=z)/\(∀g ∈ Fe,g ∈ Y)/\Fe.Nodup:=by
 have V:∀{x:Av},TV c.w c.A c.mo c.fp x u->(match jK4 x (lkr T c.st.rt) with
  |some (zz,l)=>if(zz=z\/l=[])/\(l.all fun e=>e.all plain)=true then some (l,c.st) else none
  |none=>none)=some (l,st')->∃mo' fp' Y news Fe,Ok T ⟨c.w,c.A,st',mo',fp',c.a,Y ++c.X⟩/\Stp T c ⟨c.w,c.A,st',mo',fp',c.a,Y ++c.X⟩/\Src T.P z tx u l.length news c.w/\RL c.w c.A l.flatten news Fe/\(∀e ∈ l,e.length=z)/\(∀g ∈ Fe,g ∈ Y)/\Fe.Nodup:=by
  intro x hx h
  split at h
  .rename_i zz l' hr
   split at h
   .rename_i hcd
    cases h;obtain⟨base,cap,F,hu,Z⟩:=jR0 G hx hr hcd.1;obtain⟨news,n1,n2,n3⟩:=jOW E O hu Z
    have hF:F=[]:=by
     rcases Z with⟨_,e⟩|⟨g,o,arr,ty,fz,_,_,_,h5⟩
     .exact e
     .exact RE.pl h5 hcd.2
    subst hF;exact⟨c.mo,c.fp,[],news,[],G,Stp.refl c,n1,n2,n3,fun g hg=>(by cases hg),List.nodup_nil⟩
   .cases h
  .cases h
 unfold jLk at h
 split at h
 .rename_i p
  split at h
  .split at h
   .rename_i zz l' st2 ht
    split at h
    .rename_i hzz
     cases h;obtain⟨mo',fp',Fs,k1,k2,k3,k4⟩:=G.takeV hx ht;rw[k4 rfl]at k3;obtain⟨_,e,h4⟩:=RL.one1 k3;cases e;subst hzz
     cases h4 with
     |rn=>
      obtain⟨news,n1,n2,n3⟩:=jOW (w:=c.w) (A:=c.A) (l:=[]) (F:=[]) E O rfl (.inl ⟨rfl,rfl⟩);exact⟨mo',fp',[],news,[],k1,k2,n1,n2,n3,fun g hg=>(by cases hg),List.nodup_nil⟩
     |@ro g _ F' _ cap arr ty fz b1 b2 b3 b4 b5 b6=>
      obtain⟨news,n1,n2,n3⟩:=jOW (w:=c.w) (A:=c.A) (base:=some ⟨g,0,none⟩) (cap:=cap) (F:=F') E O rfl (.inr ⟨g,0,arr,ty,fz,rfl,b1,by rw[Nat.zero_add];exact Nat.le_trans (Nat.mul_le_mul_right _ b5) b4,b6⟩);have J:=k1.sx.nd;have J:((g ::F') ++c.X).Nodup:=J;exact⟨mo',fp',g ::F',news,F',k1,k2,n1,n2,n3,fun k hk=>List.mem_cons_of_mem _ hk,(List.nodup_cons.1 (List.nodup_append.1 J).1).2⟩
    .cases h
   .cases h
  .exact V hx h
 .rename_i s
  split at h
  .rename_i hz1
   subst hz1;cases h;cases hx;have hs:=Go.firstCells_string (P:=T.P) s;have h3:=byteCells_length s;have B:(jNw s).length=s.size:=by simp[jNw]
   have M:(∃e',T.P.underlying tx=some (.slice e'))\/T.P.underlying tx=some .string:=by
    rcases E with h|h
    .obtain⟨i,d,i1,i2,i3,i4,i5,i6,rfl⟩:=inv h
     exact .inl ⟨_,i2⟩
    .obtain⟨i,d,i1,i2,i3,i4,i5,i6,rfl⟩:=inv h
     exact .inr i2
   have h1:∀u ∈ byteCells s,u.oneCell'=true:=fun u hu=>by
    obtain⟨_,_,rfl⟩:=List.mem_map.1 hu;rfl
   have h6:RL c.w c.A (jNw s).flatten (byteCells s) []:=by
    unfold jNw byteCells;generalize s.data.toList=L
    induction L with
    |nil=>exact .nil
    |cons b L ih=>exact .cons (.i _ _) ih
   exact⟨c.mo,c.fp,[],byteCells s,[],G,Stp.refl c,⟨M,fun _=>by rw[B];rfl,by rw[B];exact hs c.w,by rw[B];exact hs c.w.drew,by rw[h3,B,Nat.mul_one],h1⟩,h6,fun e he=>by
    obtain⟨_,_,rfl⟩:=List.mem_map.1 he
    rfl,fun g hg=>(by cases hg),List.nodup_nil⟩
  .cases h
 .exact V hx h
end
def jOC (z:Nat):List (Nat × Option (List C))->List (List C)->Option (List (List C))
 |[],l=>some l
 |(i,some cs) ::ps,l=>if cs.length=z/\i<l.length then jOC z ps (l.set i cs) else none
 |(_,none) ::_,_=>none
def jPz (T:Tb) (st:St) (d:Nat) (fz:Bool) (t:TypeId) (n:Nat) (ps:List (Nat × Av)):Option (Av × St):=
 if(T.ti t).kd=1/\(T.ti (T.ti t).el).kd≠0/\0<(T.ti (T.ti t).el).sz/\n*(T.ti (T.ti t).el).sz<=16777216 then match (T.ti (T.ti t).el).z with
 |some ze=>if ze.length=(T.ti (T.ti t).el).sz then match jOC (T.ti (T.ti t).el).sz (ps.map fun q=>(q.1,cls q.2)) (List.replicate n ze) with
  |some l=>if fz then some (.c (.r false (T.ti (T.ti t).el).sz l),st) else mkVal T st d (.r true (T.ti (T.ti t).el).sz l)
  |none=>match ps with
   |[(0,x)]=>if n=1/\fz=false then match takeV T st x with
      |some (cs,st1)=>if cs.length=(T.ti (T.ti t).el).sz then mkVal T st1 d (.r true (T.ti (T.ti t).el).sz [cs]) else none
      |none=>none
    else none
   |_=>none
  else none
 |none=>none
 else none
def jM4 (T:Tb) (st:St) (d:Nat) (t:TypeId) (ln cp:Av):Option (Av × St):=
 if(T.ti t).kd=1/\(T.ti (T.ti t).el).kd≠0/\0<(T.ti (T.ti t).el).sz/\(T.ti (T.ti t).el).bs<=25000 then match (T.ti (T.ti t).el).z,jKZ ln,jKZ cp with
 |some ze,some a,some b=>if ze.length=(T.ti (T.ti t).el).sz/\a<=b/\b<=4000000000 then mkVal T st d (.r true (T.ti (T.ti t).el).sz (List.replicate a ze)) else none
 |_,_,_=>none
 else none
section
variable {T:Tb}{c c' c'':Cf}
theorem Ok.app (B:Ok T c) {ts tx ty:TypeId}{d:Nat}{s v:Av}{us Z:Value}{xf:St->Av}{st':St}(hs:TV c.w c.A c.mo c.fp s us) (E:jLr s=true) (hx:∀c1:Cf,Ok T c1->c1.a=c.a->TV c1.w c1.A c1.mo c1.fp (xf c1.st) Z) (h:jM6 T c.st d ts tx s xf=some (v,st')) :
 ∃c' v',Ok T c'/\Stp T c c'/\c'.st=st'/\c'.a=c.a/\c'.X=c.X/\(Builtin.append_ #[ts,tx] ty #[us,Z]).run T.P c.w= .ok v' c'.w/\TV c'.w c'.A c'.mo c'.fp v v':=by
 unfold jM6 at h
 split at h
 .rename_i hk
  obtain⟨h4,h5,G,h6,h7⟩:=hk
  split at h
  .rename_i ze hze
   split at h
   .rename_i hzl
    split at h
    .rename_i zz l st1 ht
     split at h
     .rename_i hzz
      split at h
      .rename_i l2 st2 hsrc
       split at h
       .rename_i hlim
        obtain⟨k5,k2,Fs,M,a2,a3,a4⟩:=B.takeV hs ht;rw[a4 E]at a3;obtain⟨_,e,h8⟩:=RL.one1 a3;cases e;have h9:=hx _ M rfl;obtain⟨k6,k3,Y,k1,Fe,b1,b2,b3,b4,b5,b6,b7⟩:=M.src (tx:=tx) h7 G h9 hsrc;have J:(Y ++(Fs ++c.X)).Nodup:=b1.sx.nd;rw[List.nodup_append,List.nodup_append]at J;obtain⟨n1,⟨n2,n3,n4⟩,n5⟩:=J;obtain⟨v',w',F',r1,r2,r3,r4,r5,r6⟩:=jZW (ty:=ty) h4 h5 hze hzl G h6 h8 hzz B.al (fun g hg=>M.sx.na g (List.mem_append_left _ hg)) (fun g hg hg'=>n5 g (b6 g hg) g (List.mem_append_left _ hg') rfl) n2 b3 b4 b5 hlim;have h3:=r6 b7
        obtain⟨g1,g2⟩:=b1.grow (w':=w') (Y:=if c.w.heap.size<w'.heap.size then[c.w.heap.size] else[]) (fun k hk hne=>r4 k hk fun h=>hne (List.mem_append_right _ (List.mem_append_left _ h))) r3 (by split <;> simp) (fun g hg=>by
         split at hg
         .rename_i hlt
          rw[List.mem_singleton]at hg;subst hg;exact⟨Nat.le_refl _,hlt⟩
         .cases hg)
        have V:∀g ∈ F',g ∈ (if c.w.heap.size<w'.heap.size then[c.w.heap.size] else[]) ++(Y ++(Fs ++c.X)):=fun g hg=>by
         rcases r5 g hg with h|h|⟨O,h2⟩
         .simp[h]
         .simp[b6 g h]
         .rw[O]at h2
          rw[if_pos h2,O];simp
        obtain⟨k7,k4,m1,m2,m3⟩:=g1.mkVal (Fs:=F') (X0:=c.X) V (by
         rw[List.nodup_append];refine⟨h3,B.sx.nd,fun x hx y hy e=>?_⟩;subst e
         rcases r5 x hx with h|h|⟨O,_⟩
         .exact n4 x h x hy rfl
         .exact n5 x (b6 x h) x (List.mem_append_right _ hy) rfl
         .have:=B.sx.lt x hy;omega) (fun g hg=>by simp[hg]) r2 h
        exact⟨_,v',m1,((a2.trans b2).trans g2).trans m2,rfl,rfl,rfl,r1,m3⟩
       .cases h
      .cases h
     .cases h
    .cases h
   .cases h
  .cases h
 .cases h
theorem Ok.newRow (G:Ok T c) {X0 Fs:List Nat}(E:c.X=Fs ++X0) {z cap:Nat}(hz:0<z) {l:List (List C)}{arr:Array Value}{ty:TypeId}(M:RE c.w c.A z l arr.toList Fs) (J:cap*z<=arr.size) (O:l.length<=cap) {d:Nat}{v:Av}{st':St}(h:V.mkVal T c.st d (.r true z l)=some (v,st')) :
 ∃c',Ok T c'/\Stp T c c'/\c'.st=st'/\c'.a=c.a/\c'.X=X0/\c'.w={c.w with heap:=c.w.heap.push (.cells arr ty)}/\TV c'.w c'.A c'.mo c'.fp v (.slice (some ⟨c.w.heap.size,0,none⟩) l.length cap):=by
 obtain⟨g1,g2⟩:=G.grow (w':={c.w with heap:=c.w.heap.push (.cells arr ty)}) (Y:=[c.w.heap.size]) (fun k hk _=>jLm hk) (jPf _ _) (by simp) (fun g B=>by
  rw[List.mem_singleton]at B;subst B
  exact⟨Nat.le_refl _,by simp⟩)
 have P:=G.sx.nd;rw[E,List.nodup_append]at P
 have Z:RC {c.w with heap:=c.w.heap.push (.cells arr ty)} c.A (.r true z l) (.slice (some ⟨c.w.heap.size,0,none⟩) l.length cap) (c.w.heap.size ::Fs):=
  .ro (fz:=(0,0)) (by show(c.w.heap.push _)[c.w.heap.size]? =_;rw[Array.getElem?_push_size]) (.inl rfl) hz J O (M.st (fun k hk=>⟨hk,jLm (G.al k hk)⟩) fun k hk=>jLm (M.lt k hk))
 obtain⟨mo',fp',m1,m2,m3⟩:=g1.mkVal (Fs:=c.w.heap.size ::Fs) (X0:=X0) (fun g B=>by
  show g ∈ [c.w.heap.size] ++c.X;rw[E];rcases List.mem_cons.1 B with rfl|B
  .simp
  .simp[B]) (by
  rw[List.cons_append,List.nodup_cons,List.nodup_append]
  exact⟨fun h=>by have:=G.sx.lt c.w.heap.size (by rw[E];exact h);omega,P⟩) (fun g B=>by show g ∈ [c.w.heap.size] ++c.X;rw[E];simp[B]) Z h
 exact⟨_,m1,g2.trans m2,rfl,rfl,rfl,rfl,m3⟩
theorem Ok.newFro (B:Ok T c) {z cap:Nat}(P:0<z) {l:List (List C)}{arr:Array Value}{ty:TypeId}(J:RE c.w c.A z l arr.toList []) (hl:l.length*z<=arr.size) (G:l.length<=cap) :
 ∃c',Ok T c'/\Stp T c c'/\c'.st=c.st/\c'.a=c.a/\c'.X=c.X/\c'.w={c.w with heap:=c.w.heap.push (.cells arr ty)}/\TV c'.w c'.A c'.mo c'.fp (.c (.r false z l)) (.slice (some ⟨c.w.heap.size,0,none⟩) l.length cap):=by
 have O:∀k,c.A k->(c.A k\/k=c.w.heap.size)/\({c.w with heap:=c.w.heap.push (.cells arr ty)}:World).heap[k]? =c.w.heap[k]?:=fun k hk=>⟨.inl hk,jLm (B.al k hk)⟩
 have E:∀k,Agr (c.fp k) c.w {c.w with heap:=c.w.heap.push (.cells arr ty)}:=fun k g hg=>jLm (jKa B.sx.sr hg);have M:({c.w with heap:=c.w.heap.push (.cells arr ty)}:World).heap.size=c.w.heap.size+1:=by simp
 refine⟨{c with w:={c.w with heap:=c.w.heap.push (.cells arr ty)},A:=fun k=>c.A k\/k=c.w.heap.size},⟨⟨⟨fun k R hR=>(B.sx.sr.rts k R hR).stay O (E k),B.sx.sr.nd,fun k R hR ho g hg h=>?_,B.sx.sr.dj,fun t=>TV.same O E (B.sx.sr.tms t),B.sx.sr.nf,B.sx.sr.gl⟩,B.sx.nd,fun g hg h=>?_,B.sx.dj,fun g hg=>?_⟩,fun k hk=>?_⟩,⟨jPf _ _,fun g hg _=>jLm hg,fun g hg=>.inl hg,fun g hg=>.inl hg,fun g hg=>?_,fun r R h1 h2=>⟨R,h1,h2,rfl,rfl⟩,fun r R h _ _=>⟨h,rfl,rfl⟩⟩,rfl,rfl,rfl,rfl,?_⟩
 .rcases h with h|h
  .exact B.sx.sr.fa k R hR ho g hg h
  .have:=jKa B.sx.sr hg;omega
 .rcases h with h|h
  .exact B.sx.na g hg h
  .have:=B.sx.lt g hg;omega
 .rw[M];have:=B.sx.lt g hg;omega
 .rw[M]
  rcases hk with hk|hk
  .have:=B.al k hk;omega
  .omega
 .rcases hg with h|h
  .exact .inl h
  .exact .inr (.inr (by omega))
 .exact RC.rf (off:=0) (fz:=(0,0)) (.inr rfl) (by show(c.w.heap.push _)[c.w.heap.size]? =_;rw[Array.getElem?_push_size]) P (by omega) G (by rw[List.drop_zero];exact J.st O fun k hk=>by cases hk)
theorem jSk {z:Nat}:∀(l:List (List C)) (i:Nat) (cs:List C),(∀e ∈ l,e.length=z)->cs.length=z->i<l.length->ovl l.flatten (i*z) cs=(l.set i cs).flatten/\i*z+z<=l.flatten.length
 |[],i,cs,_,_,hi=>by simp at hi
 |e ::l,0,cs,hz,hc,_=>by
  have E:=hz e (List.mem_cons_self ..);refine⟨?_,by simp;omega⟩;rw[jLo _ _ _ (by simp;omega),Nat.zero_mul,Nat.zero_add,List.take_zero,List.nil_append,List.set_cons_zero,List.flatten_cons,List.flatten_cons,hc,<-E,List.drop_left]
 |e ::l,i+1,cs,hz,hc,hi=>by
  have E:=hz e (List.mem_cons_self ..);obtain⟨J,h2⟩:=jSk l i cs (fun e' he'=>hz e' (List.mem_cons_of_mem _ he')) hc (by simpa using hi);have B:(i+1)*z+z<=(e ::l).flatten.length:=by rw[List.flatten_cons,List.length_append,E,Nat.add_mul];omega
  refine⟨?_,B⟩;rw[jLo _ _ _ (by rw[hc];exact B),List.set_cons_succ,List.flatten_cons,List.flatten_cons,<-J,jLo _ _ _ (by rw[hc];exact h2),hc];have G:(i+1)*z=e.length+i*z:=by rw[E,Nat.add_mul];omega
  rw[G,Nat.add_assoc,List.take_length_add_append,List.drop_length_add_append];simp
theorem jUf {t:TypeId}{z:Nat}(B:(T.ti (T.ti t).el).sz=z):∀(ps:List (Nat × Option (List C))) (l l':List (List C)),jOC z ps l=some l'->(∀e ∈ l,e.length=z)->jK0 (plA T t) ps l.flatten=some l'.flatten/\(∀e ∈ l',e.length=z)/\l'.length=l.length
 |[],l,l',h,hl=>by cases h;exact⟨rfl,hl,rfl⟩
 |(i,none) ::ps,l,l',h,hl=>by cases h
 |(i,some cs) ::ps,l,l',h,hl=>by
  simp only[jOC]at h
  split at h
  .rename_i hc
   obtain⟨E,h2⟩:=jSk l i cs hl hc.1 hc.2
   obtain⟨q1,q2,q3⟩:=jUf B ps _ _ h (fun e he=>by
    rcases List.mem_or_eq_of_mem_set he with h|h
    .exact hl e h
    .rw[h];exact hc.1)
   refine⟨?_,q2,by rw[q3,List.length_set]⟩;simp only[jK0,plA,B];rw[if_pos ⟨hc.1,h2⟩,E];exact q1
  .cases h
theorem jO6 (cells:Array Value) (hs:0<cells.size):∀n,((Array.range (n*cells.size)).map (cells[· % cells.size]!)).toList=(List.replicate n cells.toList).flatten
 |0=>by simp
 |n+1=>by
  have ih:=jO6 cells hs n;rw[Array.toList_map,Array.toList_range]at ih ⊢;rw[List.replicate_succ,List.flatten_cons,<-ih,Nat.add_mul,Nat.one_mul,Nat.add_comm,List.range_add,List.map_append,List.map_map]
  congr 1
  .apply List.ext_getElem?
   intro i;rw[List.getElem?_map];have B:cells.toList[i]? =cells[i]?:=Array.getElem?_toList;rw[B]
   by_cases hi:i<cells.size
   .rw[List.getElem?_range hi,Option.map_some,Nat.mod_eq_of_lt hi,Array.getElem?_eq_getElem hi,getElem!_pos cells i hi]
   .rw[List.getElem?_eq_none (by simp;omega),Array.getElem?_eq_none (by omega)]
    rfl
  .apply List.map_congr_left
   intro i _;simp
theorem RL.rep {w:World}{A:Nat->Prop}{B:List C}{us:List Value}(h:RL w A B us []):∀n,RL w A (List.replicate n B).flatten (List.replicate n us).flatten []
 |0=>by simp;exact .nil
 |n+1=>by
  rw[List.replicate_succ,List.replicate_succ,List.flatten_cons,List.flatten_cons];exact RL.app h (RL.rep h n)
end
section
variable {T:Tb}{c c' c'':Cf}
theorem jYH {z:Nat}(l:List (List C)) (h:∀e ∈ l,e.length=z):l.flatten.length=l.length*z:=by
 induction l with
 |nil=>simp
 |cons e l ih=>rw[List.flatten_cons,List.length_append,ih fun e' he'=>h e' (List.mem_cons_of_mem _ he'),h e (List.mem_cons_self ..),List.length_cons,Nat.add_mul,Nat.one_mul,Nat.add_comm]
theorem Ok.bs (hc:Ok T c) {t:TypeId}{n d:Nat}{fz:Bool}{ps:Array (Nat × Operand)}{lk:Operand->Av}{rc:Operand->Value}{v:Av}{st':St}(hp:∀q ∈ ps.toList,TV c.w c.A c.mo c.fp (lk q.2) (rc q.2)) (h:jPz T c.st d fz t n (ps.toList.map fun q=>(q.1,lk q.2))=some (v,st')) :
 ∃c' v',Ok T c'/\Stp T c c'/\c'.st=st'/\c'.a=c.a/\c'.X=c.X/\(Instr.buildSlice t n (ps.map fun q=>(q.1,rc q.2))).run T.P c.w= .ok v' c'.w/\TV c'.w c'.A c'.mo c'.fp v v':=by
 unfold jPz at h
 split at h
 .rename_i hk
  obtain⟨k3,q9,V,r1⟩:=hk;obtain⟨i0,d0,r3,h7,r4,r5,r6,r7,rfl⟩:=inv k3
  obtain⟨ke,k4⟩:∃k,(T.ti (T.ti t).el).kd=k+1:=⟨(T.ti (T.ti t).el).kd-1,by omega⟩
  obtain⟨O,d',j1,j2,j3,j4,j5,j6,j7⟩:=inv k4
  split at h
  .rename_i ze hze
   obtain⟨E,zu,k7⟩:=j5 ze hze;have h6:RL c.w c.A ze E.cells.toList []:=jMg k7
   split at h
   .rename_i hzl
    have r2:E.cells.size=(T.ti (T.ti t).el).sz:=by
     have:ze.length=E.cells.size:=h6.len.trans Array.length_toList;omega
    obtain⟨z,hz⟩:∃z,(T.ti (T.ti t).el).sz=z:=⟨_,rfl⟩
    have h5:(ps.map fun(q:Nat × Operand)=>(q.1,rc q.2)).toList=ps.toList.map fun q=>(q.1,rc q.2):=by simp
    have h3:∀B,Instr.fill (plA T t) ((Array.range (n*E.cells.size)).map (E.cells[· % E.cells.size]!)) (ps.toList.map fun q=>(q.1,rc q.2))=some B->(Instr.buildSlice t n (ps.map fun q=>(q.1,rc q.2))).run T.P c.w= .ok (.slice (some ⟨c.w.heap.size,0,none⟩) n n) {c.w with heap:=c.w.heap.push (.cells B (T.ti t).el)}:=fun B q1=>by
     have h4:(fun(j:Nat)=>some (j*O.size,O.size))=plA T t:=by rw[<-j3];rfl
     have k6:O.size=E.cells.size:=by omega
     have k1:¬(2 ^ 24<n*O.size):=by rw[<-j3];omega
     by_cases h0:n*O.size=0
     .have hl0:n=0:=by
       rcases Nat.mul_eq_zero.1 h0 with e|e
       .exact e
       .omega
      subst hl0;have h1:Instr.fill (plA T t) #[] (ps.toList.map fun q=>(q.1,rc q.2))=some B:=by rw[<-q1];congr 1;simp
      simp only[Instr.buildSlice,Sem.run_bind,run_underlying h7,Result.andThen_ok,sizeOf,typeInfo,run_program,j1,Sem.run_pure];have k5:Array.range 0=#[]:=rfl;simp[h4,h5,k5,h1,Go.newRow]
     .have h1:Instr.fill (plA T t) ((Array.range (n*O.size)).map (E.cells[· % E.cells.size]!)) (ps.toList.map fun q=>(q.1,rc q.2))=some B:=by rw[k6];exact q1
      simp only[Instr.buildSlice,Sem.run_bind,run_underlying h7,Result.andThen_ok,sizeOf,typeInfo,run_program,j1,Sem.run_pure];rw[if_neg k1,if_neg h0];simp only[zeroValue,typeInfo,Sem.run_bind,run_program,Result.andThen_ok,j1,zu,Sem.run_pure];rw[h4,h5,h1];simp[Go.newRow]
    split at h
    .rename_i l hl
     rw[List.map_map]at hl;obtain⟨f1,f2,f3⟩:=jUf rfl _ _ _ hl (fun e he=>by rw[List.eq_of_mem_replicate he];exact hzl);rw[List.length_replicate]at f3;have Y:=h6.rep n;rw[<-jO6 E.cells (by omega) n]at Y;obtain⟨B,q1,q2⟩:=jQh (plA T t) ps.toList _ _ _ hp Y f1;have h8:l.flatten.length=B.size:=q2.len.trans Array.length_toList;rw[jYH l f2]at h8
     have M:RE c.w c.A (T.ti (T.ti t).el).sz l B.toList []:=by
      have:=RE.of l q2 f2 [];rw[List.append_nil]at this;exact this
     split at h
     .cases h
      obtain⟨c',Z,m2,m3,m4,m5,m6,J⟩:=hc.newFro (ty:=(T.ti t).el) (cap:=n) V M (by omega) (by omega);rw[f3]at J;exact⟨c',_,Z,m2,m3,m4,m5,by rw[m6];exact h3 B q1,J⟩
     .obtain⟨c',Z,m2,m3,m4,m5,m6,J⟩:=hc.newRow (X0:=c.X) (Fs:=[]) rfl (ty:=(T.ti t).el) (cap:=n) V M (by rw[<-f3];omega) (by omega) h
      rw[f3]at J;exact⟨c',_,Z,m2,m3,m4,m5,by rw[m6];exact h3 B q1,J⟩
    .split at h
     .rename_i x hps
      split at h
      .rename_i hn
       obtain⟨rfl,_⟩:=hn
       split at h
       .rename_i cs st1 ht
        split at h
        .rename_i hcl
         have h9:∃G,ps.toList=[(0,G)]/\lk G=x:=by
          cases hq :ps.toList with
          |nil=>rw[hq]at hps;simp at hps
          |cons q qs=>
           rw[hq,List.map_cons]at hps
           cases qs with
           |cons _ _=>simp at hps
           |nil=>
            obtain⟨q1,q2⟩:=q;simp at hps;obtain⟨rfl,rfl⟩:=hps;exact⟨q2,rfl,rfl⟩
         obtain⟨G,e1,rfl⟩:=h9;have hx:=hp (0,G) (by rw[e1];exact List.mem_singleton.2 rfl);obtain⟨r8,k8,Fs,a1,a2,a3,_⟩:=hc.takeV hx ht;have k9:cs.length=(rc G).cells.size:=a3.len.trans Array.length_toList
         have q1:Instr.fill (plA T t) ((Array.range (1*E.cells.size)).map (E.cells[· % E.cells.size]!)) (ps.toList.map fun q=>(q.1,rc q.2))=some (rc G).cells:=by
          rw[e1];simp only[List.map_cons,List.map_nil];unfold Instr.fill;simp only[plA,Nat.zero_mul];rw[if_neg (by simp;omega)];have k2:=jNj (rc G).cells.toList 0 0 ((Array.range (1*E.cells.size)).map (E.cells[· % E.cells.size]!));rw[<-Array.foldl_toList,Array.toList_zipIdx,k2];show some _=some _
          congr 1
          apply Array.ext';rw[jM1 _ _ _ (by simp;omega)];simp;omega
         have M:RE c.w c.A (T.ti (T.ti t).el).sz [cs] (rc G).cells.toList Fs:=by
          have:=RE.of (z:=(T.ti (T.ti t).el).sz) [cs] (F:=Fs) (vs:=(rc G).cells.toList) (by simpa using a3) (fun e he=>(congrArg List.length (List.mem_singleton.1 he)).trans hcl) [];rw[List.append_nil]at this;exact this
         obtain⟨c',Z,m2,m3,m4,m5,m6,J⟩:=a1.newRow (X0:=c.X) (Fs:=Fs) rfl (ty:=(T.ti t).el) (cap:=1) V M (by omega) (Nat.le_refl _) h;exact⟨c',_,Z,a2.trans m2,m3,m4,m5,by rw[m6];exact h3 _ q1,J⟩
        .cases h
       .cases h
      .cases h
     .cases h
   .cases h
  .cases h
 .cases h
theorem jOL {n:Int}(B: -9223372036854775808<=n) (h2:n<=9223372036854775807):IntKind.i64.wrap n=n:=by
 unfold IntKind.wrap;simp only[IntKind.bits,IntKind.signed,Bool.true_and]
 split
 .rename_i h
  have h:=of_decide_eq_true h;omega
 .rename_i h
  have h:¬(n % 2 ^ 64>=2 ^ (64-1)):=fun hh=>h (decide_eq_true hh);omega
theorem Ok.make (hc:Ok T c) {t:TypeId}{d:Nat}{ln cp v:Av}{vl vc:Value}{st':St}(hl:TV c.w c.A c.mo c.fp ln vl) (O:TV c.w c.A c.mo c.fp cp vc) (h:jM4 T c.st d t ln cp=some (v,st')) :
 ∃c' v',Ok T c'/\Stp T c c'/\c'.st=st'/\c'.a=c.a/\c'.X=c.X/\(Instr.makeSlice t vl vc).run T.P c.w= .ok v' c'.w/\TV c'.w c'.A c'.mo c'.fp v v':=by
 unfold jM4 at h
 split at h
 .rename_i hk
  obtain⟨h6,k6,h7,h8⟩:=hk;obtain⟨i0,d0,k7,Z,k8,k9,q9,r1,rfl⟩:=inv h6
  obtain⟨ke,h9⟩:∃k,(T.ti (T.ti t).el).kd=k+1:=⟨(T.ti (T.ti t).el).kd-1,by omega⟩
  obtain⟨J,d',j1,j2,j3,j4,j5,j6,j7⟩:=inv h9
  split at h
  .rename_i ze a b hze ha hb
   split at h
   .rename_i hc3
    obtain⟨V,M,h5⟩:=hc3;obtain⟨B,zu,k5⟩:=j5 ze hze;have Y:RL c.w c.A ze B.cells.toList []:=jMg k5;have k4:ze.length=B.cells.size:=Y.len.trans Array.length_toList;obtain⟨kl,rfl⟩:=jNg ha hl;obtain⟨kc,rfl⟩:=jNg hb O;have G:=Y.rep b;rw[<-jO6 B.cells (by omega) b]at G;have h1:∀e ∈ List.replicate b ze,e.length=(T.ti (T.ti t).el).sz:=fun e he=>by rw[List.eq_of_mem_replicate he];exact V
    have k2:RE c.w c.A (T.ti (T.ti t).el).sz (List.replicate b ze) ((Array.range (b*B.cells.size)).map (B.cells[· % B.cells.size]!)).toList []:=by
     have:=RE.of _ G h1 [];rw[List.append_nil]at this;exact this
    have E:=RE.tk a k2 rfl;rw[List.take_replicate,Nat.min_eq_left M]at E;obtain⟨c',m1,m2,m3,m4,m5,m6,m7⟩:=hc.newRow (X0:=c.X) (Fs:=[]) rfl (ty:=(T.ti t).el) (cap:=b) h7 E (by simp;rw[<-k4,V];exact Nat.le_refl _) (by simpa using M) h;rw[List.length_replicate]at m7;refine⟨c',_,m1,m2,m3,m4,m5,?_,m7⟩;rw[m6];have k3:J.size=B.cells.size:=by omega
    have h4:b*J.bytes<=100000000000000:=by rw[<-j4];exact Nat.mul_le_mul h5 h8
    have w1:IntKind.i64.wrap (a:Int)=a:=jOL (by omega) (by omega);have w2:IntKind.i64.wrap (b:Int)=b:=jOL (by omega) (by omega)
    have w3:¬(281474976710656<(J.bytes:Int)*(b:Int)):=by
     rw[Nat.mul_comm]at h4;have:((J.bytes*b:Nat):Int)<=100000000000000:=by omega
     rw[Int.natCast_mul]at this;omega
    have w4:¬((a:Int)<0):=by omega
    have w5:¬((a:Int) >(b:Int)):=by omega
    have w6:¬((b:Int)<0):=by omega
    by_cases h0:b*B.cells.size=0
    .have hb0:b=0:=by
      rcases Nat.mul_eq_zero.1 h0 with e|e
      .exact e
      .omega
     subst hb0;have h3:a=0:=by omega
     subst h3;have w7:IntKind.i64.wrap 0=0:=jOL (by omega) (by omega);have k1:Array.range 0=#[]:=rfl;simp[Instr.makeSlice,run_underlying Z,asInt,asIntOf,typeInfo,j1,w7,sizeOf,Go.newRow,k1]
     try rfl
    .simp[Instr.makeSlice,run_underlying Z,asInt,asIntOf,typeInfo,j1,w1,w2,w3,w4,w5,w6,sizeOf,Go.newRow,k3,h0,zeroValue,zu]
   .cases h
  .cases h
 .cases h
end
end V
end Go.Proofs.YtnhbcdnmfafbiaaGreatDoor
