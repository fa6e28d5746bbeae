import Derived.Test.YtnhbcdnmfafbiaaGreatDoorM02
import Derived.Laws.Strings
set_option linter.unusedVariables false
set_option linter.unusedSimpArgs false
set_option maxHeartbeats 20000000
namespace Go.Proofs.YtnhbcdnmfafbiaaGreatDoor
namespace V
open Go.RowKit
theorem jUW (P:Program) (t:Nat) (h:(jJR P t).kd≠0):∃i d,P.info? t=some i/\P.underlying t=some d/\(jJR P t).sz=i.size/\(jJR P t).bs=i.bytes/\(∀l,(jJR P t).z=some l->∃v,i.zero=some v/\zOf v=some l)/\
 ((d= .slice (jJR P t).el/\(jJR P t).kd=1/\(jJR P t).ag=false)\/(d= .array (jJR P t).ln (jJR P t).el/\(jJR P t).kd=2/\(jJR P t).ag=true)\/(∃fs,d= .struct fs/\(jJR P t).kd=3/\(jJR P t).ag=true/\(jJR P t).fs=fs.toList.map fun f=>(f.offset,f.type))\/(d= .string/\(jJR P t).kd=4/\(jJR P t).ag=false)\/(d= .int (jJR P t).ik/\(jJR P t).kd=5/\(jJR P t).ag=false)\/(d= .bool/\(jJR P t).kd=6/\(jJR P t).ag=false)\/(d= .pointer (jJR P t).el/\(jJR P t).kd=7/\(jJR P t).ag=false)):=by
 unfold jJR at h ⊢
 cases hi :P.info? t with
 |none=>rw[hi]at h;exact absurd rfl h
 |some i=>
  rw[hi]at h;simp only at h ⊢
  have B:∀l,(match i.zero with|some v=>zOf v|none=>none)=some l->∃v,i.zero=some v/\zOf v=some l:=by
   intro l hl
   cases hv :i.zero with
   |none=>rw[hv]at hl;cases hl
   |some v=>rw[hv]at hl;exact⟨v,rfl,hl⟩
  cases hu :P.underlying t with
  |none=>rw[hu]at h;exact absurd rfl h
  |some d=>
   rw[hu]at h
   cases d with
   |slice e=>exact⟨i,_,rfl,rfl,rfl,rfl,B,.inl ⟨rfl,rfl,rfl⟩⟩
   |array n e=>exact⟨i,_,rfl,rfl,rfl,rfl,B,.inr (.inl ⟨rfl,rfl,rfl⟩)⟩
   |struct fs=>exact⟨i,_,rfl,rfl,rfl,rfl,B,.inr (.inr (.inl ⟨fs,rfl,rfl,rfl,rfl⟩))⟩
   |string=>exact⟨i,_,rfl,rfl,rfl,rfl,B,.inr (.inr (.inr (.inl ⟨rfl,rfl,rfl⟩)))⟩
   |int k=>exact⟨i,_,rfl,rfl,rfl,rfl,B,.inr (.inr (.inr (.inr (.inl ⟨rfl,rfl,rfl⟩))))⟩
   |bool=>exact⟨i,_,rfl,rfl,rfl,rfl,B,.inr (.inr (.inr (.inr (.inr (.inl ⟨rfl,rfl,rfl⟩)))))⟩
   |pointer e=>exact⟨i,_,rfl,rfl,rfl,rfl,B,.inr (.inr (.inr (.inr (.inr (.inr ⟨rfl,rfl,rfl⟩)))))⟩
   |_=>exact absurd rfl h
def tdIs (i:TI) (d:TypeDesc):Nat->Prop
 |0=>d= .slice i.el
 |1=>d= .array i.ln i.el
 |2=>∃fs,d= .struct fs/\i.fs=fs.toList.map fun f=>(f.offset,f.type)
 |3=>d= .string
 |4=>d= .int i.ik
 |5=>d= .bool
 |6=>d= .pointer i.el
 |_=>True
section
variable {T:Tb}{t:Nat}
theorem inv {k:Nat}(h:(T.ti t).kd=k+1):∃i d,T.P.info? t=some i/\T.P.underlying t=some d/\(T.ti t).sz=i.size/\(T.ti t).bs=i.bytes/\(∀l,(T.ti t).z=some l->∃v,i.zero=some v/\(zOf v).map (msk l)=some (l.map zn))/\(∀w,(isAgg t).run T.P w= .ok (T.ti t).ag w)/\
 tdIs (T.ti t) d k:=by
 obtain⟨e0,Y⟩:=T.ok t (by omega);have G:(jJR T.P t).kd=k+1:=by rw[<-h,e0]
 obtain⟨i,d,J,h2,M,O,V,E⟩:=jUW T.P t (by omega)
 refine⟨i,d,J,h2,by rw[e0];exact M,by rw[e0];exact O,fun l hl=>(by
  obtain⟨m,Z,k2⟩:=Option.map_eq_some_iff.1 (Y l hl);obtain⟨v,q1,q2⟩:=V m Z
  exact⟨v,q1,by rw[q2];simp[k2]⟩),fun w=>?_,?_⟩
 .have hu:=run_underlying h2 w
  rcases E with⟨e,_,B⟩|⟨e,_,B⟩|⟨fs,e,_,B,_⟩|⟨e,_,B⟩|⟨e,_,B⟩|⟨e,_,B⟩|⟨e,_,B⟩ <;> (rw[show(T.ti t).ag=(jJR T.P t).ag by rw[e0],B];simp[isAgg,hu,e])
 .rcases E with⟨e,e1,_⟩|⟨e,e1,_⟩|⟨fs,e,e1,_,e3⟩|⟨e,e1,_⟩|⟨e,e1,_⟩|⟨e,e1,_⟩|⟨e,e1,_⟩ <;> (rw[G]at e1;cases e1;rw[e0];first|exact e|exact⟨fs,e,e3⟩)
end
section
variable {w:World}{A:Nat->Prop}
theorem jQR {v:Value}{x:C}(h:cOf v=some x):RC w A x v []:=by
 unfold cOf at h
 split at h <;> cases h
 .exact .b _
 .exact .i _ _
 .exact .s _
 .exact .pn
 .exact .rn _ _
theorem jQO:∀{l:List Value}{m:List C},jNu l=some m->RL w A m l []
 |[],m,h=>by cases h;exact .nil
 |v ::l,m,h=>by
  unfold jNu at h
  split at h
  .rename_i x hx
   split at h
   .rename_i m' hm
    cases h;exact .cons (jQR hx) (jQO hm)
   .cases h
  .cases h
theorem jUx {v:Value}{l:List C}(h:zOf v=some l):RL w A l v.cells.toList []:=by
 unfold zOf at h
 split at h
 .exact jQO h
 .rename_i hne
  split at h
  .rename_i x hx
   cases h;have B:=jQR (w:=w) (A:=A) hx
   have:v.cells=#[v]:=by cases v <;> first|rfl|(exact absurd rfl (hne _))
   rw[this];exact .cons B .nil
  .cases h
theorem jUw {c:C}{v:Value}{F:List Nat}(h:RC w A (zn c) v F):RC w A c v F:=by
 unfold zn at h
 split at h
 .cases h with
  |rn=>exact .rn _ _
  |ro h1 h2 h3=>exact absurd h3 (Nat.lt_irrefl _)
 .exact h
theorem jRc:∀{l:List C}{vs:List Value}{F:List Nat},RL w A (l.map zn) vs F->RL w A l vs F
 |[],vs,F,h=>h
 |c ::l,vs,F,h=>by
  cases h with
  |cons h1 h2=>exact .cons (jUw h1) (jRc h2)
theorem jSv:∀{l m:List C}{vs:List Value},RL w A m vs []->RL w A (msk l m) vs []
 |[],m,vs,h=>by cases m <;> exact h
 |_ ::_,[],vs,h=>h
 |c ::l,d ::m,vs,h=>by
  generalize hF:([]:List Nat)=F at h
  cases h with
  |@cons _ v F1 _ us F2 h1 h2=>
   have e:=List.append_eq_nil_iff.1 hF.symm;rw[e.1]at h1;rw[e.2]at h2;rw[e.1,e.2];refine .cons ?_ (jSv h2);unfold mk1
   split
   .exact .uk h1.one
   .cases h1;exact .ui _
   .exact h1
theorem jMg {v:Value}{l:List C}(h:(zOf v).map (msk l)=some (l.map zn)):RL w A l v.cells.toList []:=by
 obtain⟨m,B,h2⟩:=Option.map_eq_some_iff.1 h;have:=jSv (l:=l) (jUx (w:=w) (A:=A) B);rw[h2]at this;exact jRc this
end
def ofV:Value->Av
 | .agg ⟨l⟩=>match jNu l with
   |some m=>.ag m
   |none=>.u
 | .slice none 0 0=>.nl
 | .tuple ⟨[]⟩=>.tp []
 |v=>match cOf v with
  |some x=>.c x
  |none=>.u
def evo (T:Tb) (st:St):Operand->Av
 | .tmp t=>lkt st.tm t
 | .const v=>ofV v
 | .global g=>match T.gl (1000000+g) with
   |some _=>.pa ⟨1000000+g,0,[]⟩
   |none=>.u
 | .func _=>.u
def jLx:Ph->Nat->Ph
 |[],_=>[]
 |[(z,j,q)],n=>[(z,j,q+n)]
 |x ::l,n=>x ::jLx l n
def pad (p:Pth) (n:Nat):Pth:=match p.p with
 |[]=>⟨p.r,p.o+n,[]⟩
 |pp=>⟨p.r,p.o,jLx pp n⟩
def dn (p:Pth) (z j:Nat):Pth:=⟨p.r,p.o,p.p ++[(z,j,0)]⟩
def gP (rt:Nat->Option Rt) (p:Pth) (n:Nat):Option (List C):=match rt p.r with
 |some R=>if R.kd=9 then none else gL p.p R.cs p.o n
 |none=>none
def plain:C->Bool
 | .r true _ _=>false
 | .bx _=>false
 |_=>true
def rd1 (p:Pth):C->Av
 | .r true _ _=>.lo p
 | .bx _=>.pa (dn p 0 0)
 |c=>.c c
def rdA (p:Pth) (n:Nat) (l:List C):Av:=if l.all plain then .ag l else .la p n
def inM (rt:Nat->Option Rt) (p:Pth):Bool:=match p.p with
 |[]=>match rt p.r with
  |some R=>!isV R
  |none=>false
 |_=>true
def jLY (i:TI) (a:Av) (rt:Nat->Option Rt):Option Av:=if i.kd=0 then none else match a with
 | .pa p=>if inM rt p then(if i.ag then match gP rt p i.sz with
  |some l=>some (rdA p i.sz l)
  |none=>none
   else match gP rt p 1 with
    |some [c]=>some (rd1 p c)
    |_=>none) else none
 | .ev l o=>if i.ag then match gts l o i.sz with
  |some m=>if m.all plain then some (.ag m) else none
  |none=>none
   else match l[o]? with
    |some c=>if plain c then some (.c c) else none
    |none=>none
 |_=>none
section
variable {T:Tb}{w w':World}{A A':Nat->Prop}{st:St}{mo:Nat->Mo}{fp:Nat->List Nat}{a:Nat->Value}
theorem jJQ (F:List Nat) (w:World):Agr F w w:=fun _ _=>rfl
theorem Agr.trans {F:List Nat}{w1 w2 B:World}(h:Agr F w1 w2) (E:Agr F w2 B):Agr F w1 B:=fun k hk=>(E k hk).trans (h k hk)
theorem jYw {p:Pth}{n:Nat}{l:List C}{rt:Nat->Option Rt}(h:gP rt p n=some l):∃R,rt p.r=some R/\R.kd≠9/\gL p.p R.cs p.o n=some l:=by
 unfold gP at h
 cases hr :rt p.r with
 |none=>rw[hr]at h;cases h
 |some R=>
  rw[hr]at h;simp only at h
  by_cases B:R.kd=9
  .rw[if_pos B]at h;cases h
  .rw[if_neg B]at h;exact⟨R,rfl,B,h⟩
theorem SR.cells' (Y:SR T w A st mo fp a) {p:Pth}{n:Nat}{l:List C}(h:gP (lkr T st.rt) p n=some l):∃us Fs,us.length=n/\RL w A l us Fs/\(∀g ∈ Fs,g ∈ fp p.r)/\(∀w',Agr (fp p.r) w w'->vls w' (mo p.r) p n=some us)/\(Fs.Nodup/\l.length=n)/\
 (inM (lkr T st.rt) p=true->∃g q arr ty fz,(∀w',Agr (fp p.r) w w'->ad w' (mo p.r) p.o p.p=some (g,q))/\w.heap[g]? =some (.cells arr ty fz)/\q+n<=arr.size/\us=(arr.toList.drop q).take n/\g ∈ fp p.r/\g ∉ Fs):=by
 obtain⟨R,hR,V,E⟩:=jYw h;have B:=Y.rts _ _ hR;have G:=Y.nd _ _ hR
 by_cases Z:p.p=[]/\isV R=true
 .obtain⟨hb1,hb2⟩:=Z
  rw[hb1]at E;unfold jJM at B;rw[if_neg V,hb2,if_pos rfl]at B;obtain⟨e1,e2,P⟩:=jLH _ _ _ _ E;obtain⟨F1,Fs,F2,hF,r1,r2,r3⟩:=B.foc P;have hl:=B.len;refine⟨((mo p.r).vs.drop p.o).take n,Fs,by simp;omega,by rw[e1];exact r1,fun g E=>by rw[hF];simp[E],fun w' _=>?_,⟨(List.Sublist.trans (List.sublist_append_right _ _) (List.sublist_append_left _ _)).nodup (hF ▸ G),e2⟩,fun hm=>?_⟩
  .unfold vls
   rw[hb1];simp only;rw[if_pos (by omega)]
  .unfold inM at hm
   rw[hb1]at hm;simp only[hR,hb2]at hm;cases hm
 .obtain⟨g1,a1,arr1,ty1,fz1,F1,Fs,F2,s1,s2,s3,s4,s5,s6,s7,s8,s9,s10⟩:=B.lens G (fun e=>by cases J :isV R with|false=>rfl|true=>exact absurd ⟨e,J⟩ Z) V E
  have M:∀w',Agr (fp p.r) w w'->ad w' (mo p.r) p.o p.p=some (g1,a1):=fun w' hw=>s9 w' fun k hk=>hw k (by rw[s7];simp[hk])
  refine⟨(arr1.toList.drop a1).take n,Fs,by simp;omega,s6,fun g E=>by rw[s7];simp[E],fun w' hw=>?_,⟨(List.Sublist.trans (List.sublist_append_right _ _) (List.sublist_append_left _ _)).nodup (s7 ▸ G),s5⟩,fun _=>⟨g1,a1,arr1,ty1,fz1,M,s2,s4,rfl,by rw[s7];simp[s8],fun hm=>by
   rw[s7,List.append_assoc,List.nodup_append]at G
   exact G.2.2 g1 s8 g1 (by simp[hm]) rfl⟩⟩
  unfold vls
  split
  .rename_i hp
   rw[hp]at s1;simp only[ad,Option.some.injEq,Prod.mk.injEq]at s1;obtain⟨rfl,rfl⟩:=s1;have J:isV R=false:=by cases J :isV R with|false=>rfl|true=>exact absurd ⟨hp,J⟩ Z
   unfold jJM at B;rw[if_neg V,J]at B;simp only[Bool.false_eq_true,if_false]at B;obtain⟨F',arr,_,hL,O,_⟩:=B;rw[hL.blk]at s2;cases s2;rw[hp]at E;obtain⟨e1,e2,P⟩:=jLH _ _ _ _ E;have:=hL.le;have hl:(mo p.r).vs.length=R.cs.length:=by rw[O];simp;omega
   rw[if_pos (by omega),O,jNn _ _ _ _ _ P]
  .rw[M w' hw]
   simp only[Option.bind_some];unfold jMa;rw[hw g1 (by rw[s7];simp[s8]),s2];simp only;rw[if_pos s4]
theorem SR.cells (B:SR T w A st mo fp a) {p:Pth}{n:Nat}{l:List C}(h:gP (lkr T st.rt) p n=some l):∃us Fs,us.length=n/\RL w A l us Fs/\(∀g ∈ Fs,g ∈ fp p.r)/\(∀w',Agr (fp p.r) w w'->vls w' (mo p.r) p n=some us)/\
 (inM (lkr T st.rt) p=true->∃g q arr ty fz,(∀w',Agr (fp p.r) w w'->ad w' (mo p.r) p.o p.p=some (g,q))/\w.heap[g]? =some (.cells arr ty fz)/\q+n<=arr.size/\us=(arr.toList.drop q).take n):=by
 obtain⟨us,Fs,E,h2,G,J,P,M⟩:=SR.cells' B h;exact⟨us,Fs,E,h2,G,J,fun hm=>by obtain⟨g,q,arr,ty,fz,O,z2,z3,z4,_⟩:=M hm;exact⟨g,q,arr,ty,fz,O,z2,z3,z4⟩⟩
theorem RC.pl {c:C}{v:Value}{F:List Nat}(h:RC w A c v F) (hp:plain c=true):F=[]:=by
 cases h <;> first|rfl|(simp[plain]at hp)
theorem RL.pl {l:List C}{us:List Value}{F:List Nat}(h:RL w A l us F) (hp:l.all plain=true):F=[]:=by
 induction l generalizing us F with
 |nil=>cases h;rfl
 |cons c l ih=>
  cases h with
  |cons h1 h2=>
   rw[List.all_cons,Bool.and_eq_true]at hp;rw[h1.pl hp.1,ih h2 hp.2];rfl
theorem jOE (w:World) (z j q:Nat):∀(pp:Ph) (g b:Nat),adr w g b (pp ++[(z,j,q)])=(adr w g b pp).bind fun x=>(w.cell? ⟨x.1,x.2,none⟩).bind fun v=>adv w v z j q []
 |[],g,b=>by rw[List.nil_append,jLM];rfl
 |(z',j',q') ::pp,g,b=>by
  rw[List.cons_append,jLM,jLM]
  cases w.cell? ⟨g,b,none⟩ with
  |none=>rfl
  |some v=>
   simp only[Option.bind_some];unfold adv
   split
   .exact jOE w z j q pp _ _
   .exact jOE w z j q pp _ _
   .rfl
theorem jZ0 (w:World) (v:Value) (z j q B j' q':Nat) (pp:Ph):adv w v B j' q' (pp ++[(z,j,q)])=(adv w v B j' q' pp).bind fun x=>(w.cell? ⟨x.1,x.2,none⟩).bind fun v=>adv w v z j q []:=by
 unfold adv
 split
 .exact jOE w z j q pp _ _
 .exact jOE w z j q pp _ _
 .rfl
theorem blk1 {g a:Nat}{v:Value}(h:jMa w g a 1=some [v]):w.cell? ⟨g,a,none⟩=some v:=by
 unfold jMa at h
 split at h
 .rename_i arr ty fz hb
  split at h
  .rename_i hle
   rw[cell_of hb];have B:a<arr.toList.length:=by simp;omega
   rw[List.drop_eq_getElem_cons B]at h;simp only[List.take_succ_cons,List.take_zero,Option.some.injEq,List.cons.injEq,and_true]at h;rw[<-h];simp
  .cases h
 .cases h
theorem vs1 {vs:List Value}{o:Nat}{v:Value}(h:(if o+1<=vs.length then some ((vs.drop o).take 1) else none)=some [v]):vs[o]? =some v:=by
 split at h
 .rename_i hle
  rw[List.drop_eq_getElem_cons (by omega)]at h;simp only[List.take_succ_cons,List.take_zero,Option.some.injEq,List.cons.injEq,and_true]at h;rw[<-h];exact List.getElem?_eq_getElem (by omega)
 .cases h
theorem jQ4 {m:Mo}{p:Pth}{v:Value}(h:vls w m p 1=some [v]) (z j q:Nat):ad w m p.o (p.p ++[(z,j,q)])=adv w v z j q []:=by
 unfold vls at h
 cases hp :p.p with
 |nil=>
  rw[hp]at h;simp only at h;show(m.vs[p.o]?).bind _=_;rw[vs1 h];rfl
 |cons x pp=>
  obtain⟨B,j',q'⟩:=x;rw[hp]at h;simp only[ad]at h;show(m.vs[p.o]?).bind (fun v=>adv w v B j' q' (pp ++[(z,j,q)]))=_
  cases hv :m.vs[p.o]? with
  |none=>rw[hv]at h;cases h
  |some hv'=>
   rw[hv]at h;simp only[Option.bind_some]at h ⊢;rw[jZ0]
   cases ha :adv w hv' B j' q' pp with
   |none=>rw[ha]at h;cases h
   |some g=>
    rw[ha]at h;simp only[Option.bind_some]at h ⊢;rw[blk1 h];rfl
theorem jR8 (E:SR T w A st mo fp a) {p:Pth}{c:C}(h:gP (lkr T st.rt) p 1=some [c]):∃v,TV w A mo fp (rd1 p c) v/\v.oneCell'=true/\∀w',Agr (fp p.r) w w'->vls w' (mo p.r) p 1=some [v]:=by
 obtain⟨us,Fs,G,h2,J,B,M⟩:=E.cells h
 cases h2 with
 |@cons _ v F _ vs F' h6 h7=>
  cases h7;refine⟨v,?_,h6.one,B⟩
  have pl:plain c=true->RC w A c v []:=fun hp=>by
   have:=h6.pl hp;subst this;exact h6
  cases c with
  |r o zz l=>
   cases o with
   |true=>exact B
   |false=>exact pl rfl
  |bx l=>
   cases h6 with
   |@bx k _ F2 arr ty fz b1 b2 b3=>
    exact⟨k,0,fun w' hw=>jQ4 (B w' hw) 0 0 0,rfl⟩
  |_=>exact pl rfl
theorem jR7 (G:SR T w A st mo fp a) {p:Pth}{n:Nat}{l:List C}(h:gP (lkr T st.rt) p n=some l):∃arr:Array Value,TV w A mo fp (rdA p n l) (.agg arr)/\arr.size=n/\∀w',Agr (fp p.r) w w'->vls w' (mo p.r) p n=some arr.toList:=by
 obtain⟨us,Fs,B,h2,J,E,M⟩:=G.cells h;refine⟨us.toArray,?_,by simpa using B,E⟩;unfold rdA
 split
 .rename_i hp
  have:=h2.pl hp;subst this;exact⟨us.toArray,rfl,h2⟩
 .exact⟨us.toArray,rfl,by simpa using B,E⟩
theorem jPS {g q n:Nat}{arr:Array Value}{ty:TypeId}{fz:Nat × Nat}(B:w.heap[g]? =some (.cells arr ty fz)) (E:q+n<=arr.size) (P:Program):(loadCells ⟨g,q,none⟩ n).run P w= .ok ((arr.toList.drop q).take n).toArray w:=by
 have hl:=run_loadCells_list (P:=P) w ⟨g,q,none⟩ ((arr.toList.drop q).take n) (fun j u hu=>by
  rw[Addr.add_lit,cell_of B];rw[List.getElem?_take]at hu
  split at hu
  .rw[List.getElem?_drop,Array.getElem?_toList]at hu;exact hu
  .cases hu)
 rw[show((arr.toList.drop q).take n).length=n by simp;omega]at hl;exact hl
theorem jSQ (G:SR T w A st mo fp a) {t:TypeId}{x:Av}{u:Value}{r:Av}(hx:TV w A mo fp x u) (h:jLY (T.ti t) x (lkr T st.rt)=some r):∃v,(Instr.loadAt t u).run T.P w= .ok v w/\TV w A mo fp r v/\∃ad,u= .pointer (some ad):=by
 unfold jLY at h
 split at h
 .cases h
 .rename_i hk
  obtain⟨k,hk⟩:∃k,(T.ti t).kd=k+1:=⟨(T.ti t).kd-1,by omega⟩
  obtain⟨i,d,i1,i2,i3,i4,i5,J,i7⟩:=inv hk
  cases x with
  |pa p=>
   simp only at h
   split at h
   .rename_i hm
    obtain⟨g,q,M,rfl⟩:=hx
    cases hag :(T.ti t).ag with
    |true=>
     rw[hag]at h;simp only[if_true]at h
     cases hg :gP (lkr T st.rt) p (T.ti t).sz with
     |none=>rw[hg]at h;cases h
     |some l=>
      rw[hg]at h;cases h;obtain⟨us,Fs,h1,h2,h3,Y,Z⟩:=G.cells hg;obtain⟨g',q',arr,ty,fz,j1,j2,j3,j4⟩:=Z hm;have e:=M w (jJQ _ _);rw[j1 w (jJQ _ _)]at e;cases e;obtain⟨V,E,r2,r3⟩:=jR7 G hg;have B:=r3 w (jJQ _ _);rw[Y w (jJQ _ _)]at B;cases B;have hl:=jPS j2 j3 T.P;rw[<-j4]at hl;exact⟨.agg V,by simp[Instr.loadAt,Instr.sureAddr,loadVar,J,hag,sizeOf,typeInfo,i1,<-i3,hl],E,_,rfl⟩
    |false=>
     rw[hag]at h;simp only[Bool.false_eq_true,if_false]at h
     cases hg :gP (lkr T st.rt) p 1 with
     |none=>rw[hg]at h;cases h
     |some l=>
      rw[hg]at h
      cases l with
      |nil=>cases h
      |cons c l=>
       cases l with
       |cons _ _=>cases h
       |nil=>
        cases h;obtain⟨us,Fs,h1,h2,h3,Y,Z⟩:=G.cells hg;obtain⟨g',q',arr,ty,fz,j1,j2,j3,j4⟩:=Z hm;have e:=M w (jJQ _ _);rw[j1 w (jJQ _ _)]at e;cases e;obtain⟨v,E,r2,r3⟩:=jR8 G hg;have B:=r3 w (jJQ _ _);rw[Y w (jJQ _ _)]at B;cases B;have hc:w.cell? ⟨g,q,none⟩=some v:=blk1 (by unfold jMa;rw[j2];simp only;rw[if_pos j3,<-j4]);exact⟨v,by simp[Instr.loadAt,Instr.sureAddr,loadVar,J,hag,hc],E,_,rfl⟩
   .cases h
  |ev l o=>
   simp only at h;obtain⟨g,q,arr,ty,fz,e1,B,e3,e4,rfl⟩:=hx
   cases hag :(T.ti t).ag with
   |true=>
    rw[hag]at h;simp only[if_true]at h
    cases hg :gts l o (T.ti t).sz with
    |none=>rw[hg]at h;cases h
    |some m=>
     rw[hg]at h;simp only at h
     split at h
     .rename_i hp
      cases h;obtain⟨f1,f2,f3⟩:=jLH _ _ _ _ hg;obtain⟨F1,Fs,F2,hF,E,_⟩:=e4.foc f3;rw[jNn _ _ _ _ _ f3,<-f1]at E;have h7:=E.pl hp;subst h7;have hl:=jPS (q:=q+o) (n:=(T.ti t).sz) B (by omega) T.P;exact⟨.agg ((arr.toList.drop (q+o)).take (T.ti t).sz).toArray,by simp only[Instr.loadAt,Instr.sureAddr,loadVar,J,hag,sizeOf,typeInfo,i1,<-i3,hl,Sem.run_bind,Sem.run_pure,run_program,Result.andThen_ok,if_true],⟨_,rfl,E⟩,_,rfl⟩
     .cases h
   |false=>
    rw[hag]at h;simp only[Bool.false_eq_true,if_false]at h
    cases hg :l[o]? with
    |none=>rw[hg]at h;cases h
    |some c=>
     rw[hg]at h;simp only at h
     split at h
     .rename_i hp
      cases h;obtain⟨v,F1,Fc,F2,hv,_,O,_⟩:=e4.at hg;have h6:=O.pl hp;subst h6;have ho:=(List.getElem?_eq_some_iff.1 hg).1;rw[List.getElem?_take,if_pos ho,List.getElem?_drop,Array.getElem?_toList]at hv;have hc:w.cell? ⟨g,q+o,none⟩=some v:=(cell_of B _).trans hv;exact⟨v,by simp[Instr.loadAt,Instr.sureAddr,loadVar,J,hag,hc],O,_,rfl⟩
     .cases h
  |_=>cases h
end
def jTx:BinOp->Bool
 | .shl=>true
 | .shr=>true
 |_=>false
def jLw (op:BinOp) (k:IntKind) (a b:Int):Option C:=match op with
 | .add=>some (.i k (k.wrap (a+b)))
 | .sub=>some (.i k (k.wrap (a-b)))
 | .mul=>some (.i k (k.wrap (a*b)))
 | .quo=>if b=0 then none else some (.i k (k.wrap (a.tdiv b)))
 | .rem=>if b=0 then none else some (.i k (a.tmod b))
 | .and=>some (.i k (k.wrap (BitVec.ofInt k.bits a &&& BitVec.ofInt k.bits b).toNat))
 | .or=>some (.i k (k.wrap (BitVec.ofInt k.bits a ||| BitVec.ofInt k.bits b).toNat))
 | .andNot=>some (.i k (k.wrap (BitVec.ofInt k.bits a &&& ~~~ BitVec.ofInt k.bits b).toNat))
 | .shl=>if b<0 then none else some (.i k (k.wrap (a*2 ^ (min b.toNat k.bits))))
 | .shr=>if b<0 then none else some (.i k (a.fdiv (2 ^ (min b.toNat k.bits))))
 | .eql=>some (.b (decide (a=b)))
 | .neq=>some (.b (decide (a≠b)))
 | .lss=>some (.b (decide (a<b)))
 | .leq=>some (.b (decide (a<=b)))
 | .gtr=>some (.b (decide (a >b)))
 | .geq=>some (.b (decide (a>=b)))
 |_=>none
def jQW (op:BinOp) (a b:ByteArray):Option C:=match op with
 | .add=>if a.size+b.size<=1000000000000 then some (.s (a ++b)) else none
 | .eql=>some (.b (decide (a=b)))
 | .neq=>some (.b (decide (a≠b)))
 |_=>none
def binB (op:BinOp) (a b:Bool):Option C:=match op with
 | .eql=>some (.b (a == b))
 | .neq=>some (.b (!(a == b)))
 |_=>none
def binP (op:BinOp) (b:Bool):Option C:=match op with
 | .eql=>some (.b b)
 | .neq=>some (.b (!b))
 |_=>none
def jMB:Option C->Option Av
 |some c=>some (.c c)
 |none=>none
def jKI (i:TI) (op:BinOp):Av->Av->Option Av
 | .c (.i k a),.c (.i k' b)=>if k=k'\/jTx op=true then jMB (jLw op k a b) else none
 | .c (.s a),.c (.s b)=>jMB (jQW op a b)
 | .c (.b a),.c (.b b)=>if i.kd=6 then jMB (binB op a b) else none
 | .c .pn,.c .pn=>if i.kd=7 then jMB (binP op true) else none
 | .pa _,.c .pn=>if i.kd=7 then jMB (binP op false) else none
 |_,_=>none
def rUn (op:UnOp):Av->Option Av
 | .c (.i k n)=>match op with
   | .neg=>some (.c (.i k (k.wrap (0-n))))
   |_=>none
 | .c (.b x)=>match op with
   | .not=>some (.c (.b (!x)))
   |_=>none
 |_=>none
section
variable {T:Tb}{w w':World}{A A':Nat->Prop}{st:St}{mo:Nat->Mo}{fp:Nat->List Nat}{a:Nat->Value}
def jKW (P:Program) (op:BinOp) (t:TypeId) (xo yo:Operand) (vx vy:Value) (w:World):Result Value:=(do eqGuard op t xo yo vx vy;binOp op t vx vy:Sem Value).run P w
theorem jYq (op:BinOp) (t:TypeId) (B E:Operand) (k k':IntKind) (a b:Int) (w:World) (P:Program):(eqGuard op t B E (.int k a) (.int k' b)).run P w= .ok () w:=by
 unfold eqGuard;cases op <;> simp
theorem jYp (op:BinOp) (t:TypeId) (B E:Operand) (a b:ByteArray) (w:World) (P:Program):(eqGuard op t B E (.string a) (.string b)).run P w= .ok () w:=by
 unfold eqGuard;cases op <;> simp
theorem jTk (op:BinOp) (t:TypeId) (B E:Operand) (a b:Bool) (w:World) (P:Program):(eqGuard op t B E (.bool a) (.bool b)).run P w= .ok () w:=by
 unfold eqGuard;cases op <;> simp
theorem jOj (op:BinOp) (t:TypeId) (B E:Operand) (a b:Option Addr) (w:World) (P:Program):(eqGuard op t B E (.pointer a) (.pointer b)).run P w= .ok () w:=by
 unfold eqGuard
 split <;> simp
theorem jRG (a b:ByteArray):(a.toList == b.toList)=decide (a=b):=by
 rw[ByteArray.toList_eq,ByteArray.toList_eq]
 by_cases e:a=b
 .subst e;simp
 .have:a.data.toList≠b.data.toList:=fun h=>e (by
   obtain⟨⟨x⟩⟩:=a;obtain⟨⟨y⟩⟩:=b;simp at h
   rw[h])
  rw[decide_eq_false e];simpa using this
theorem jSb {t:TypeId}(hk:(T.ti t).kd=7) {p q:Option Addr}{c:Bool}(h:(p=none/\c=q.isNone)\/((∃x,p=some x)/\q=none/\c=false)):(Op.equal t (.pointer p) (.pointer q)).run T.P w= .ok c w:=by
 obtain⟨i,d,G,i2,i3,i4,i5,J,B⟩:=inv hk;have B:d= .pointer _:=B;subst B;have E:=run_underlying i2 w;show(Op.equalIn (9999+1) t (.pointer p) (.pointer q)).run T.P w=_;unfold Op.equalIn;rcases h with⟨rfl,rfl⟩|⟨⟨x,rfl⟩,rfl,rfl⟩ <;> simp only[Sem.run_bind,E,Result.andThen_ok,Sem.run_pure]
theorem int_ne (a b:Int):(a != b)=decide (a≠b):=by rw[bne,show(a == b)=decide (a=b)from rfl,<-decide_not]
theorem jt5 {op:BinOp}{t:TypeId}{x y r:Av}(h:jKI (T.ti t) op x y=some r) {V Y:Value}(hx:TV w A mo fp x V) (hy:TV w A mo fp y Y) (G J:Operand):∃vr,jKW T.P op t G J V Y w= .ok vr w/\TV w A mo fp r vr:=by
 have li:∀{o:Option C}{r:Av},jMB o=some r->∃c,o=some c/\r= .c c:=by
  intro o r h
  cases o with
  |none=>cases h
  |some c=>cases h;exact⟨c,rfl,rfl⟩
 unfold jKI at h
 split at h
 .rename_i k a k' b
  cases hx;cases hy
  split at h
  .rename_i hk
   obtain⟨c,B,rfl⟩:=li h
   have fin:∀{vr:Value},(binOp op t (.int k a) (.int k' b)).run T.P w= .ok vr w->RC w A c vr []->∃vr,jKW T.P op t G J (.int k a) (.int k' b) w= .ok vr w/\TV w A mo fp (.c c) vr:=fun h1 h2=>
    ⟨_,by unfold jKW;simp only[Sem.run_bind,jYq,Result.andThen_ok];exact h1,h2⟩
   cases op with
   |add=>rcases hk with rfl|hk;cases B;exact fin (by simp[binOp,Op.intArith] <;> exact rfl) (.i _ _);cases hk
   |sub=>rcases hk with rfl|hk;cases B;exact fin (by simp[binOp,Op.intArith] <;> exact rfl) (.i _ _);cases hk
   |mul=>rcases hk with rfl|hk;cases B;exact fin (by simp[binOp,Op.intArith] <;> exact rfl) (.i _ _);cases hk
   |quo=>
    rcases hk with rfl|hk
    .simp only[jLw]at B
     split at B
     .cases B
     .rename_i hb;cases B;exact fin (by simp[binOp,Op.intDiv,hb] <;> exact rfl) (.i _ _)
    .cases hk
   |rem=>
    rcases hk with rfl|hk
    .simp only[jLw]at B
     split at B
     .cases B
     .rename_i hb;cases B;exact fin (by simp[binOp,Op.intDiv,hb] <;> exact rfl) (.i _ _)
    .cases hk
   |and=>rcases hk with rfl|hk;cases B;exact fin (by simp[binOp,Op.intBits] <;> exact rfl) (.i _ _);cases hk
   |or=>rcases hk with rfl|hk;cases B;exact fin (by simp[binOp,Op.intBits] <;> exact rfl) (.i _ _);cases hk
   |andNot=>rcases hk with rfl|hk;cases B;exact fin (by simp[binOp,Op.intBits] <;> exact rfl) (.i _ _);cases hk
   |shl=>
    simp only[jLw]at B
    split at B
    .cases B
    .rename_i hb;cases B;exact fin (by simp[binOp,Op.shift,hb] <;> exact rfl) (.i _ _)
   |shr=>
    simp only[jLw]at B
    split at B
    .cases B
    .rename_i hb;cases B;exact fin (by simp[binOp,Op.shift,hb] <;> exact rfl) (.i _ _)
   |eql=>rcases hk with rfl|hk;cases B;exact fin (by simp[binOp,Op.intCmp] <;> exact rfl) (by have :(a == b)=decide (a=b):=rfl;rw[this];exact .b _);cases hk
   |neq=>rcases hk with rfl|hk;cases B;exact fin (by simp[binOp,Op.intCmp] <;> exact rfl) (by rw[int_ne];exact .b _);cases hk
   |lss=>rcases hk with rfl|hk;cases B;exact fin (by simp[binOp,Op.intCmp] <;> exact rfl) (.b _);cases hk
   |leq=>rcases hk with rfl|hk;cases B;exact fin (by simp[binOp,Op.intCmp] <;> exact rfl) (.b _);cases hk
   |gtr=>rcases hk with rfl|hk;cases B;exact fin (by simp[binOp,Op.intCmp] <;> exact rfl) (.b _);cases hk
   |geq=>rcases hk with rfl|hk;cases B;exact fin (by simp[binOp,Op.intCmp] <;> exact rfl) (.b _);cases hk
   |_=>cases B
  .cases h
 .rename_i sa sb
  cases hx;cases hy;obtain⟨c,B,rfl⟩:=li h
  have M:∀{q:Value},(Op.stringOp op sa sb).run T.P w= .ok q w->jKW T.P op t G J (.string sa) (.string sb) w= .ok q w:=fun hq=>by
   unfold jKW;simp only[Sem.run_bind,jYp,Result.andThen_ok];cases op <;> simpa[binOp] using hq
  cases op with
  |add=>
   simp only[jQW]at B
   split at B
   .rename_i hl
    cases B;have Z:¬((9223372036854775807:Int)<(sa.size:Int)+(sb.size:Int)):=by omega
    exact⟨_,M (by simp[Op.stringOp,IntKind.max,IntKind.bits,IntKind.signed,Z] <;> exact rfl),RC.s _⟩
   .cases B
  |eql=>cases B;exact⟨_,M (by simp only[Op.stringOp,Sem.run_pure] <;> exact rfl),by rw[jRG];exact RC.b _⟩
  |neq=>cases B;exact⟨_,M (by simp only[Op.stringOp,Sem.run_pure] <;> exact rfl),by rw[jRG,<-decide_not];exact RC.b _⟩
  |_=>cases B
 .rename_i p q
  cases hx;cases hy
  split at h
  .rename_i hk
   obtain⟨c,B,rfl⟩:=li h;obtain⟨i,d,i1,i2,i3,i4,i5,i6,O⟩:=inv hk;have O:d= .bool:=O;subst O;have hu:=run_underlying i2 w
   have E:(Op.equal t (.bool p) (.bool q)).run T.P w= .ok (p == q) w:=by
    show(Op.equalIn (9999+1) t (.bool p) (.bool q)).run T.P w=_;unfold Op.equalIn;simp only[Sem.run_bind,hu,Result.andThen_ok,Sem.run_pure]
   cases op with
   |eql=>cases B;exact⟨_,by unfold jKW;simp[jTk,binOp,E] <;> exact rfl,RC.b _⟩
   |neq=>cases B;exact⟨_,by unfold jKW;simp[jTk,binOp,E] <;> exact rfl,RC.b _⟩
   |_=>cases B
  .cases h
 .cases hx
  cases hy
  split at h
  .rename_i hk
   obtain⟨c,B,rfl⟩:=li h;have E:=jSb (w:=w) hk (p:=none) (q:=none) (c:=true) (.inl ⟨rfl,rfl⟩)
   cases op with
   |eql=>cases B;exact⟨_,by unfold jKW;simp[jOj,binOp,E] <;> exact rfl,RC.b _⟩
   |neq=>cases B;exact⟨_,by unfold jKW;simp[jOj,binOp,E] <;> exact rfl,RC.b _⟩
   |_=>cases B
  .cases h
 .cases hy
  obtain⟨g,q,_,rfl⟩:=hx
  split at h
  .rename_i hk
   obtain⟨c,B,rfl⟩:=li h;have E:=jSb (w:=w) hk (p:=some ⟨g,q,none⟩) (q:=none) (c:=false) (.inr ⟨⟨_,rfl⟩,rfl,rfl⟩)
   cases op with
   |eql=>cases B;exact⟨_,by unfold jKW;simp[jOj,binOp,E] <;> exact rfl,RC.b _⟩
   |neq=>cases B;exact⟨_,by unfold jKW;simp[jOj,binOp,E] <;> exact rfl,RC.b _⟩
   |_=>cases B
  .cases h
 .cases h
theorem jxf {op:UnOp}{x r:Av}(h:rUn op x=some r) {B:Value}(hx:TV w A mo fp x B):∃vr,(Op.unary op B).run T.P w= .ok vr w/\TV w A mo fp r vr:=by
 unfold rUn at h
 split at h
 .cases hx
  cases op with
  |neg=>cases h;exact⟨_,by simp only[Op.unary,Op.intArith,Sem.run_pure] <;> exact rfl,RC.i _ _⟩
  |_=>cases h
 .cases hx
  cases op with
  |not=>cases h;exact⟨_,by simp only[Op.unary,Sem.run_pure] <;> exact rfl,RC.b _⟩
  |_=>cases h
 .cases h
end
def jKZ:Av->Option Nat
 | .c (.i _ n)=>if 0<=n then some n.toNat else none
 |_=>none
def jPb (T:Tb) (s:TypeId) (f:Nat) (x:Av):Option Av:=if(T.ti s).kd=3 then match (T.ti s).fs[f]? with
 |some q=>if(T.ti q.2).sz=0\/(T.ti q.2).kd=0 then none else match x with
  | .pa p=>some (.pa (pad p q.1))
  | .ev l o=>some (.ev l (o+q.1))
  |_=>none
 |none=>none else none
def jMp (i:TI) (off:Nat) (x:Av) (rt:Nat->Option Rt):Option Av:=if i.kd=0 then none else match x with
 | .ag l=>if i.ag then match gts l off i.sz with
  |some m=>some (.ag m)
  |none=>none
   else match l[off]? with
    |some c=>some (.c c)
    |none=>none
 | .la p n=>if off+(if i.ag then i.sz else 1)<=n then(if i.ag then match gP rt (pad p off) i.sz with
  |some l=>some (rdA (pad p off) i.sz l)
  |none=>none
   else match gP rt (pad p off) 1 with
    |some [c]=>some (rd1 (pad p off) c)
    |_=>none) else none
 |_=>none
def jPc (T:Tb) (s:TypeId) (f:Nat) (x:Av) (rt:Nat->Option Rt):Option Av:=if(T.ti s).kd=3 then match (T.ti s).fs[f]? with
 |some q=>jMp (T.ti q.2) q.1 x rt
 |none=>none else none
def jLZ (T:Tb) (t:TypeId) (x ix:Av) (rt:Nat->Option Rt):Option Av:=match jKZ ix with
 |none=>none
 |some j=>if(T.ti (T.ti t).el).sz=0\/(T.ti (T.ti t).el).kd=0 then none else if(T.ti t).kd=1 then(match x with
  | .lo p=>match gP rt p 1 with
    |some [.r true zz l]=>if j<l.length/\zz=(T.ti (T.ti t).el).sz then some (.pa (dn p (T.ti (T.ti t).el).sz j)) else none
    |_=>none
  | .sb p z a b=>if z=(T.ti (T.ti t).el).sz/\a+j<b then some (.pa (dn p z (a+j))) else none
  | .c (.r false zz l)=>match l[j]? with
    |some e=>if zz=(T.ti (T.ti t).el).sz then some (.ev e 0) else none
    |none=>none
  |_=>none)
  else if(T.ti t).kd=2 then(if j<(T.ti t).ln then(match x with
   | .pa p=>some (.pa (pad p (j*(T.ti (T.ti t).el).sz)))
   | .ev l o=>some (.ev l (o+j*(T.ti (T.ti t).el).sz))
   |_=>none) else none)
  else none
def jMY (T:Tb) (t:TypeId) (x ix:Av) (rt:Nat->Option Rt):Option Av:=match jKZ ix with
 |none=>none
 |some j=>if(T.ti t).kd=4 then(match x with
  | .c (.s s)=>match s[j]? with
    |some u=>some (.c (.i .u8 (u.toNat:Nat)))
    |none=>none
  |_=>none)
  else if(T.ti t).kd=2 then(if j<(T.ti t).ln then jMp (T.ti (T.ti t).el) (j*(T.ti (T.ti t).el).sz) x rt else none)
  else none
def jMq (T:Tb) (t:TypeId) (x:Av) (rt:Nat->Option Rt):Option Av:=if(T.ti t).kd=1 then(match x with
    | .nl=>some (.c (.i .i64 0))
    | .c (.r _ _ l)=>some (.c (.i .i64 (l.length:Nat)))
    | .lo p=>match gP rt p 1 with
      |some [.r true _ l]=>some (.c (.i .i64 (l.length:Nat)))
      |_=>none
    | .sb p z a b=>some (.c (.i .i64 ((b-a:Nat):Int)))
    |_=>none)
 else if(T.ti t).kd=4 then(match x with
  | .c (.s s)=>some (.c (.i .i64 (s.size:Nat)))
  |_=>none)
 else if(T.ti t).kd=2 then some (.c (.i .i64 ((T.ti t).ln:Nat)))
 else if(T.ti t).kd=7/\(T.ti (T.ti t).el).kd=2 then some (.c (.i .i64 ((T.ti (T.ti t).el).ln:Nat)))
 else none
section
variable {T:Tb}{w w':World}{A A':Nat->Prop}{st:St}{mo:Nat->Mo}{fp:Nat->List Nat}{a:Nat->Value}
theorem jOF (w:World) (n:Nat):∀(pp:Ph) (g b:Nat) {g1 a1:Nat},pp≠[]->adr w g b pp=some (g1,a1)->adr w g b (jLx pp n)=some (g1,a1+n)
 |[],g,b,_,_,h,_=>absurd rfl h
 |[(z,j,q)],g,b,g1,a1,_,h=>by
  rw[jLM]at h;show adr w g b [(z,j,q+n)]=_;rw[jLM]
  cases hc :w.cell? ⟨g,b,none⟩ with
  |none=>rw[hc]at h;cases h
  |some v=>
   rw[hc,Option.bind_some]at h;rw[Option.bind_some];unfold adv at h ⊢
   split at h
   .simp only[adr,Option.some.injEq,Prod.mk.injEq]at h ⊢
    obtain⟨rfl,rfl⟩:=h;exact⟨rfl,by omega⟩
   .simp only[adr,Option.some.injEq,Prod.mk.injEq]at h ⊢
    obtain⟨rfl,rfl⟩:=h;exact⟨rfl,by omega⟩
   .cases h
 |(z,j,q) ::y ::pp,g,b,g1,a1,_,h=>by
  show adr w g b ((z,j,q) ::jLx (y ::pp) n)=_;rw[jLM]at h ⊢
  cases hc :w.cell? ⟨g,b,none⟩ with
  |none=>rw[hc]at h;cases h
  |some v=>
   rw[hc,Option.bind_some]at h;rw[Option.bind_some];unfold adv at h ⊢
   split at h
   .exact jOF w n (y ::pp) _ _ (by simp) h
   .exact jOF w n (y ::pp) _ _ (by simp) h
   .cases h
theorem jZ1 (w:World) (n:Nat) (v:Value) (z j q:Nat):∀(pp:Ph) {g1 a1:Nat},adv w v z j q pp=some (g1,a1)->(match jLx ((z,j,q) ::pp) n with|(z',j',q') ::pp'=>adv w v z' j' q' pp'|[]=>none)=some (g1,a1+n)
 |[],g1,a1,h=>by
  show adv w v z j (q+n) []=_;unfold adv at h ⊢
  split at h
  .simp only[adr,Option.some.injEq,Prod.mk.injEq]at h ⊢
   obtain⟨rfl,rfl⟩:=h;exact⟨rfl,by omega⟩
  .simp only[adr,Option.some.injEq,Prod.mk.injEq]at h ⊢
   obtain⟨rfl,rfl⟩:=h;exact⟨rfl,by omega⟩
  .cases h
 |y ::pp,g1,a1,h=>by
  show adv w v z j q (jLx (y ::pp) n)=_;unfold adv at h ⊢
  split at h
  .exact jOF w n (y ::pp) _ _ (by simp) h
  .exact jOF w n (y ::pp) _ _ (by simp) h
  .cases h
theorem jUm (x:Nat × Nat × Nat) (pp:Ph) (n:Nat):∃y pp',jLx (x ::pp) n=y ::pp':=by
 obtain⟨z,j,q⟩:=x
 cases pp with
 |nil=>exact⟨_,_,rfl⟩
 |cons y pp=>exact⟨_,_,rfl⟩
theorem jNT (p:Pth) (n:Nat):(pad p n).r=p.r:=by
 unfold pad
 split <;> rfl
theorem jQ5 {m:Mo}{p:Pth}{g a:Nat}(n:Nat) (h:ad w m p.o p.p=some (g,a)):ad w m (pad p n).o (pad p n).p=some (g,a+n):=by
 obtain⟨r,o,pp⟩:=p
 cases pp with
 |nil=>
  simp only[ad,Option.some.injEq,Prod.mk.injEq]at h;obtain⟨rfl,rfl⟩:=h;simp only[pad,ad,Option.some.injEq,Prod.mk.injEq,true_and];omega
 |cons x pp=>
  obtain⟨z,j,q⟩:=x;simp only[ad]at h;show ad w m o (jLx ((z,j,q) ::pp) n)=_
  cases hv :m.vs[o]? with
  |none=>rw[hv]at h;cases h
  |some v=>
   rw[hv,Option.bind_some]at h;have:=jZ1 w n v z j q pp h;obtain⟨y,B,e⟩:=jUm (z,j,q) pp n;rw[e]at this ⊢;obtain⟨E,j',q'⟩:=y;simp only[ad,hv,Option.bind_some];exact this
theorem jRq {m:Mo}{p:Pth}{n off k:Nat}{us:List Value}(h:vls w m p n=some us) (hk:off+k<=n):vls w m (pad p off) k=some ((us.drop off).take k):=by
 obtain⟨r,o,pp⟩:=p
 cases pp with
 |nil=>
  simp only[vls]at h;show(if o+off+k<=m.vs.length then some ((m.vs.drop (o+off)).take k) else none)=_
  split at h
  .cases h
   rw[if_pos (by omega),jNn _ _ _ _ _ hk]
  .cases h
 |cons x pp=>
  simp only[vls]at h
  cases ha :ad w m o (x ::pp) with
  |none=>rw[ha]at h;cases h
  |some ga=>
   rw[ha,Option.bind_some]at h;have hp:=jQ5 (p:=⟨r,o,x ::pp⟩) off ha;obtain⟨y,B,e⟩:=jUm x pp off;have E:pad ⟨r,o,x ::pp⟩ off=⟨r,o,y ::B⟩:=by show(⟨r,o,jLx (x ::pp) off⟩:Pth)=_;rw[e]
   rw[E]at hp ⊢;simp only[vls];rw[hp,Option.bind_some];unfold jMa at h ⊢
   split at h
   .rename_i arr ty fz hb
    split at h
    .cases h
     rw[hb];simp only;rw[if_pos (by omega),jNn _ _ _ _ _ hk]
    .cases h
   .cases h
theorem jYO {s:TypeId}{f:Nat}{x r:Av}{u:Value}(hx:TV w A mo fp x u) (h:jPb T s f x=some r):∃v,(Instr.fieldAt s u f).run T.P w= .ok v w/\TV w A mo fp r v:=by
 unfold jPb at h
 split at h
 .rename_i hk
  obtain⟨i,d,i1,i2,i3,i4,i5,i6,fs,rfl,Z⟩:=inv hk
  split at h
  .rename_i q hq
   rw[Z,List.getElem?_map,Array.getElem?_toList]at hq
   cases hf :fs[f]? with
   |none=>rw[hf]at hq;cases hq
   |some fl=>
    rw[hf]at hq;cases hq;simp only at h
    split at h
    .cases h
    .rename_i hz
     have h1:(T.ti fl.type).sz≠0:=fun e=>hz (.inl e);have h3:(T.ti fl.type).kd≠0:=fun e=>hz (.inr e)
     obtain⟨k,G⟩:∃k,(T.ti fl.type).kd=k+1:=⟨(T.ti fl.type).kd-1,by omega⟩
     obtain⟨Y,d',j1,j2,j3,_⟩:=inv G;have J:Y.size≠0:=by omega
     have B:∀g a,(Instr.fieldAt s (.pointer (some ⟨g,a,none⟩)) f).run T.P w= .ok (.pointer (some ⟨g,a+fl.offset,none⟩)) w:=fun g a=>by
      simp[Instr.fieldAt,run_underlying i2,hf,Instr.sureAddr,fieldPlace,sizeOf,typeInfo,j1,J,Addr.add_lit]
     cases x with
     |pa p=>
      cases h;obtain⟨g,a,E,rfl⟩:=hx;exact⟨_,B g a,g,a+fl.offset,fun w' hw=>by rw[jNT]at hw ⊢;exact jQ5 _ (E w' hw),rfl⟩
     |ev l o=>
      cases h;obtain⟨g,q,arr,ty,fz,E,M,O,V,rfl⟩:=hx;exact⟨_,B _ _,g,q,arr,ty,fz,E,M,O,V,by rw[Nat.add_assoc]⟩
     |_=>cases h
  .cases h
 .cases h
theorem jSi (Z:SR T w A st mo fp a) {t:TypeId}{off:Nat}{x r:Av}{u:Value}(hx:TV w A mo fp x u) (h:jMp (T.ti t) off x (lkr T st.rt)=some r):∃arr v,u= .agg arr/\(part t arr off).run T.P w= .ok v w/\TV w A mo fp r v:=by
 unfold jMp at h
 split at h
 .cases h
 .rename_i hk
  obtain⟨k,hk⟩:∃k,(T.ti t).kd=k+1:=⟨(T.ti t).kd-1,by omega⟩
  obtain⟨i,d,i1,i2,i3,i4,i5,M,i7⟩:=inv hk
  cases x with
  |ag l=>
   obtain⟨arr,rfl,hr⟩:=hx;simp only at h
   cases hag :(T.ti t).ag with
   |true=>
    rw[hag]at h;simp only[if_true]at h
    cases hg :gts l off (T.ti t).sz with
    |none=>rw[hg]at h;cases h
    |some m=>
     rw[hg]at h;cases h;obtain⟨f1,f2,f3⟩:=jLH _ _ _ _ hg;obtain⟨O,Fs,F2,hF,J,_⟩:=hr.foc f3
     have E:Fs=[]:=by
      cases O <;> cases Fs <;> simp at hF ⊢
     subst E;refine⟨arr,.agg (arr.extract off (off+(T.ti t).sz)),rfl,by simp[part,M,hag,sizeOf,typeInfo,i1,i3],_,rfl,?_⟩;rw[Array.toList_extract,List.extract_eq_take_drop,Nat.add_sub_cancel_left,f1];exact J
   |false=>
    rw[hag]at h;simp only[Bool.false_eq_true,if_false]at h
    cases hg :l[off]? with
    |none=>rw[hg]at h;cases h
    |some c=>
     rw[hg]at h;cases h;obtain⟨v,O,Fc,F2,G,hF,h3,_⟩:=hr.at hg
     have E:Fc=[]:=by
      cases O <;> cases Fc <;> simp at hF ⊢
     subst E;rw[Array.getElem?_toList]at G;exact⟨arr,v,rfl,by simp[part,M,hag,G],h3⟩
  |la p n=>
   obtain⟨arr,rfl,h4,G⟩:=hx;simp only at h
   cases hag :(T.ti t).ag with
   |true=>
    rw[hag]at h;simp only[if_true]at h
    split at h
    .rename_i hle
     cases hg :gP (lkr T st.rt) (pad p off) (T.ti t).sz with
     |none=>rw[hg]at h;cases h
     |some l=>
      rw[hg]at h;cases h;obtain⟨V,J,r2,r3⟩:=jR7 Z hg;refine⟨arr,.agg (arr.extract off (off+(T.ti t).sz)),rfl,by simp[part,M,hag,sizeOf,typeInfo,i1,i3],?_⟩;have B:=r3 w (jJQ _ _);have Y:=jRq (G w (jJQ _ _)) hle;rw[jNT,Y]at B
      have:arr.extract off (off+(T.ti t).sz)=V:=by
       apply Array.ext';rw[Array.toList_extract,List.extract_eq_take_drop,Nat.add_sub_cancel_left];exact Option.some.inj B
      rw[this];exact J
    .cases h
   |false=>
    rw[hag]at h;simp only[Bool.false_eq_true,if_false]at h
    split at h
    .rename_i hle
     cases hg :gP (lkr T st.rt) (pad p off) 1 with
     |none=>rw[hg]at h;cases h
     |some l=>
      rw[hg]at h
      cases l with
      |nil=>cases h
      |cons c l=>
       cases l with
       |cons _ _=>cases h
       |nil=>
        cases h;obtain⟨v,J,r2,r3⟩:=jR8 Z hg;have B:=r3 w (jJQ _ _);have Y:=jRq (G w (jJQ _ _)) hle;rw[jNT,Y]at B;have h1:off<arr.toList.length:=by simp;omega
        rw[List.drop_eq_getElem_cons h1]at B;simp only[List.take_succ_cons,List.take_zero,Option.some.injEq,List.cons.injEq,and_true]at B;have:arr[off]? =some v:=by rw[<-B];simp
        exact⟨arr,v,rfl,by simp[part,M,hag,this],J⟩
    .cases h
  |_=>cases h
theorem jYN (B:SR T w A st mo fp a) {s:TypeId}{f:Nat}{x r:Av}{u:Value}(hx:TV w A mo fp x u) (h:jPc T s f x (lkr T st.rt)=some r):∃v,(Instr.field s u f).run T.P w= .ok v w/\TV w A mo fp r v:=by
 unfold jPc at h
 split at h
 .rename_i hk
  obtain⟨i,d,M,i2,i3,i4,i5,O,fs,rfl,J⟩:=inv hk
  split at h
  .rename_i q hq
   rw[J,List.getElem?_map,Array.getElem?_toList]at hq
   cases hf :fs[f]? with
   |none=>rw[hf]at hq;cases hq
   |some fl=>
    rw[hf]at hq;cases hq;obtain⟨arr,v,rfl,E,G⟩:=jSi B hx h;exact⟨v,by simp[Instr.field,run_underlying i2,hf,asAgg,E],G⟩
  .cases h
 .cases h
end
def bnd (lk:Operand->Av) (o:Option Operand) (z:Nat):Option Nat:=match o with
 |none=>some z
 |some x=>jKZ (lk x)
def jMX (T:Tb) (t:TypeId) (x:Av) (lo:Option Nat) (hi:Nat->Option Nat) (rt:Nat->Option Rt):Option Av:=match lo with
 |none=>none
 |some a=>if(T.ti t).kd=4 then(match x with
  | .c (.s s)=>match hi s.size with
    |some b=>if a<=b/\b<=s.size then some (.c (.s (s.extract a b))) else none
    |none=>none
  |_=>none)
  else if(T.ti t).kd=1/\(T.ti (T.ti t).el).kd≠0/\(T.ti (T.ti t).el).sz≠0 then(match x with
   | .lo p=>match gP rt p 1 with
     |some [.r true zz l]=>match hi l.length with
      |some b=>if a<=b/\b<=l.length/\0<l.length/\zz=(T.ti (T.ti t).el).sz then some (.sb p (T.ti (T.ti t).el).sz a b) else none
      |none=>none
     |_=>none
   | .c (.r false zz l)=>match hi l.length with
     |some b=>if a<=b/\b<=l.length/\0<l.length/\zz=(T.ti (T.ti t).el).sz then some (.c (.r false zz ((l.drop a).take (b-a)))) else none
     |none=>none
   |_=>none)
  else none
def byt:List C->Option UInt8
 |[.i .u8 n]=>if 0<=n/\n<256 then some (UInt8.ofNat n.toNat) else none
 |_=>none
def bytes:List (List C)->Option (List UInt8)
 |[]=>some []
 |e ::l=>match byt e with
  |some u=>match bytes l with
   |some us=>some (u ::us)
   |none=>none
  |none=>none
def rowOf (x:Av) (rt:Nat->Option Rt):Option (List (List C)):=match x with
 | .nl=>some []
 | .c (.r _ _ l)=>some l
 | .lo p=>match gP rt p 1 with
   |some [.r true _ l]=>some l
   |_=>none
 | .sb p z a b=>match gP rt p 1 with
   |some [.r true zz l]=>if zz=z then some ((l.drop a).take (b-a)) else none
   |_=>none
 |_=>none
def jMr (T:Tb) (s d:TypeId) (x:Av) (rt:Nat->Option Rt):Option Av:=if(T.ti s).kd=0 then none else if(T.ti d).kd=5 then(match x with
    | .c (.i _ n)=>some (.c (.i (T.ti d).ik ((T.ti d).ik.wrap n)))
    |_=>none)
 else if(T.ti d).kd=4/\(T.ti s).kd=1/\(T.ti (T.ti s).el).kd=5/\(T.ti (T.ti s).el).ik= .u8 then(match rowOf x rt with
  |some l=>match bytes l with
   |some us=>some (.c (.s ⟨us.toArray⟩))
   |none=>none
  |none=>none)
 else none
section
variable {T:Tb}{w w':World}{A A':Nat->Prop}{st:St}{mo:Nat->Mo}{fp:Nat->List Nat}{a:Nat->Value}
theorem jNg {x:Av}{n:Nat}(h:jKZ x=some n) {v:Value}(hx:TV w A mo fp x v):∃k,v= .int k (n:Nat):=by
 unfold jKZ at h
 split at h
 .split at h
  .cases h
   cases hx;exact⟨_,by rw[Int.toNat_of_nonneg (by assumption)]⟩
  .cases h
 .cases h
theorem jgY (B:SR T w A st mo fp a) {p:Pth}{z:Nat}{l:List (List C)}(h:gP (lkr T st.rt) p 1=some [.r true z l]):∃v F,RC w A (.r true z l) v F/\(∀g ∈ F,g ∈ fp p.r)/\∀w',Agr (fp p.r) w w'->vls w' (mo p.r) p 1=some [v]:=by
 obtain⟨us,Fs,J,h2,E,G,M⟩:=B.cells h
 cases h2 with
 |@cons _ v F _ vs F' h6 h7=>
  cases h7;exact⟨v,F,h6,fun g hg=>E g (by simp[hg]),G⟩
theorem jNb {p:Pth}{v u:Value}(hx:TV w A mo fp (.lo p) u) (E:∀w',Agr (fp p.r) w w'->vls w' (mo p.r) p 1=some [v]):u=v:=by
 have B:=hx w (jJQ _ _);rw[E w (jJQ _ _)]at B;cases B;rfl
theorem jRJ {z:Nat}{l:List (List C)}{v:Value}{F:List Nat}(h:RC w A (.r true z l) v F) (hl:0<l.length):∃g cap,v= .slice (some ⟨g,0,none⟩) l.length cap/\l.length<=cap:=by
 cases h with
 |rn=>simp at hl
 |ro h1 h2 h3 h4 h5 h6=>exact⟨_,_,rfl,h5⟩
theorem jYg (hS:SR T w A st mo fp a) {t:TypeId}{x M r:Av}{u ui:Value}(hx:TV w A mo fp x u) (hi:TV w A mo fp M ui) (h:jLZ T t x M (lkr T st.rt)=some r):∃v,(Instr.indexAt t u ui).run T.P w= .ok v w/\TV w A mo fp r v:=by
 unfold jLZ at h
 split at h
 .cases h
 .rename_i j hj
  obtain⟨k,rfl⟩:=jNg hj hi
  split at h
  .cases h
  .rename_i hz
   obtain⟨ke,h1⟩:∃k,(T.ti (T.ti t).el).kd=k+1:=⟨(T.ti (T.ti t).el).kd-1,by omega⟩
   obtain⟨i',d',j1,j2,j3,_⟩:=inv h1
   split at h
   .rename_i hk
    obtain⟨i,d,i1,i2,i3,i4,i5,i6,rfl⟩:=inv hk
    have E:∀g o len cap,j<len->(Instr.indexAt t (.slice (some ⟨g,o,none⟩) len cap) (.int k (j:Nat))).run T.P w= .ok (.pointer (some ⟨g,o+j*(T.ti (T.ti t).el).sz,none⟩)) w:=fun g o len cap B=>by
     simp[Instr.indexAt,asIntOf,run_underlying i2,sizeOf,typeInfo,j1,j3,B,Addr.add_lit]
    split at h
    .rename_i p
     split at h
     .rename_i zz l hg
      split at h
      .rename_i B
       obtain⟨B,G⟩:=B;cases h;obtain⟨v,F,q1,q2,q3⟩:=jgY hS hg;have:=jNb hx q3;subst this;obtain⟨g,cap,rfl,_⟩:=jRJ q1 (by omega);refine⟨_,E g 0 _ cap B,g,j*(T.ti (T.ti t).el).sz,fun w' hw=>?_,by rw[Nat.zero_add]⟩;show ad w' (mo p.r) p.o (p.p ++[(_,j,0)])=_;rw[jQ4 (q3 w' hw)];simp[adv,adr]
      .cases h
     .cases h
    .rename_i p z ia ib
     split at h
     .rename_i hc
      obtain⟨rfl,hc⟩:=hc;cases h;obtain⟨g,len,cap,q1,q2,q3,q4,rfl⟩:=hx;have h3:cap≠ia:=by omega
      rw[if_neg h3];refine⟨_,E g _ _ _ (by omega),g,(ia+j)*(T.ti (T.ti t).el).sz,fun w' hw=>?_,by rw[Nat.add_mul]⟩;show ad w' (mo p.r) p.o (p.p ++[(_,ia+j,0)])=_;rw[jQ4 (q1 w' hw)];simp[adv,adr]
     .cases h
    .rename_i zz l
     split at h
     .rename_i e he
      split at h
      .rename_i hzz0
       cases h
       cases hx with
       |rn=>simp at he
       |re=>simp at he
       |@rf g off _ _ cap arr ty fz b1 b2 b3 b4 b5 b6=>
        obtain⟨V,c2,F1,O,F2,c3,Y,_⟩:=RE.foc b6 he;have Z:O=[]:=by cases F1 <;> cases O <;> simp at c3 ⊢
        subst Z;have B:=(List.getElem?_eq_some_iff.1 he).1;have G:=hzz0;rw[List.drop_drop]at Y;rw[List.length_drop,Array.length_toList]at c2;refine⟨_,E g off _ cap B,g,off+j*zz,arr,ty,fz,b1,b2,by rw[V];omega,by rw[V];exact Y,by rw[G];simp⟩
      .cases h
     .cases h
    .cases h
   .split at h
    .rename_i hk
     obtain⟨i,d,i1,i2,i3,i4,i5,i6,rfl⟩:=inv hk
     split at h
     .rename_i B
      have E:∀g o,(Instr.indexAt t (.pointer (some ⟨g,o,none⟩)) (.int k (j:Nat))).run T.P w= .ok (.pointer (some ⟨g,o+j*(T.ti (T.ti t).el).sz,none⟩)) w:=fun g o=>by
       simp[Instr.indexAt,asIntOf,run_underlying i2,Instr.sureAddr,sizeOf,typeInfo,j1,j3,B,Addr.add_lit]
      split at h
      .rename_i p
       cases h;obtain⟨g,q,J,rfl⟩:=hx;exact⟨_,E g q,g,_,fun w' hw=>by rw[jNT]at hw ⊢;exact jQ5 _ (J w' hw),rfl⟩
      .rename_i l o
       cases h;obtain⟨g,q,arr,ty,fz,J,e2,e3,e4,rfl⟩:=hx;exact⟨_,E _ _,g,q,arr,ty,fz,J,e2,e3,e4,by rw[Nat.add_assoc]⟩
      .cases h
     .cases h
    .cases h
theorem jYf (G:SR T w A st mo fp a) {t:TypeId}{x E r:Av}{u ui:Value}(hx:TV w A mo fp x u) (hi:TV w A mo fp E ui) (h:jMY T t x E (lkr T st.rt)=some r):∃v,(Instr.index t u ui).run T.P w= .ok v w/\TV w A mo fp r v:=by
 unfold jMY at h
 split at h
 .cases h
 .rename_i j hj
  obtain⟨k,rfl⟩:=jNg hj hi
  split at h
  .rename_i hk
   obtain⟨i,d,O,i2,i3,i4,i5,V,rfl⟩:=inv hk
   split at h
   .rename_i s
    split at h
    .rename_i b hb
     cases h;cases hx;exact⟨.int .u8 b.toNat,by simp[Instr.index,asIntOf,run_underlying i2,hb],RC.i _ _⟩
    .cases h
   .cases h
  .split at h
   .rename_i hk
    obtain⟨i,d,O,i2,i3,i4,i5,V,rfl⟩:=inv hk
    split at h
    .rename_i hlt
     obtain⟨arr,v,rfl,J,M⟩:=jSi G hx h
     have B:(T.ti (T.ti t).el).kd≠0:=by
      intro e;unfold jMp at h;rw[if_pos e]at h;cases h
     obtain⟨ke,B⟩:∃k,(T.ti (T.ti t).el).kd=k+1:=⟨(T.ti (T.ti t).el).kd-1,by omega⟩
     obtain⟨i',d',Y,j2,Z,_⟩:=inv B;exact⟨v,by simp[Instr.index,asIntOf,run_underlying i2,hlt,sizeOf,typeInfo,Y,<-Z,J],M⟩
    .cases h
   .cases h
theorem jXE (J:SR T w A st mo fp a) {t ty:TypeId}{x r:Av}{u:Value}(hx:TV w A mo fp x u) (h:jMq T t x (lkr T st.rt)=some r):∃v,(Builtin.len_ #[t] ty #[u]).run T.P w= .ok v w/\TV w A mo fp r v:=by
 unfold jMq at h
 split at h
 .rename_i hk
  obtain⟨i,d,E,i2,i3,i4,i5,G,rfl⟩:=inv hk
  have B:∀b len cap,(Builtin.len_ #[t] ty #[.slice b len cap]).run T.P w= .ok (.int .i64 (len:Nat)) w:=fun b len cap=>by
   simp[Builtin.len_,run_underlying i2,goInt]
  split at h
  .cases h
   have hx:u= .slice none 0 0:=hx;subst hx;exact⟨_,B _ _ _,RC.i _ _⟩
  .rename_i o zz l
   cases h;have:∃b cap,u= .slice b l.length cap:=by cases hx <;> exact⟨_,_,rfl⟩
   obtain⟨b,cap,rfl⟩:=this;exact⟨_,B _ _ _,RC.i _ _⟩
  .rename_i p
   split at h
   .rename_i zz l hg
    cases h;obtain⟨v,F,q1,q2,q3⟩:=jgY J hg;have:=jNb hx q3;subst this;have:∃b cap,u= .slice b l.length cap:=by cases q1 <;> exact⟨_,_,rfl⟩
    obtain⟨b,cap,rfl⟩:=this;exact⟨_,B _ _ _,RC.i _ _⟩
   .cases h
  .cases h
   obtain⟨g,len,cap,q1,q2,q3,q4,rfl⟩:=hx;exact⟨_,B _ _ _,RC.i _ _⟩
  .cases h
 .split at h
  .rename_i hk
   obtain⟨i,d,E,i2,i3,i4,i5,G,rfl⟩:=inv hk
   split at h
   .cases h
    cases hx;exact⟨_,by simp[Builtin.len_,run_underlying i2,goInt] <;> exact rfl,RC.i _ _⟩
   .cases h
  .split at h
   .rename_i hk
    obtain⟨i,d,E,i2,i3,i4,i5,G,rfl⟩:=inv hk;cases h;exact⟨_,by simp[Builtin.len_,run_underlying i2,goInt] <;> exact rfl,RC.i _ _⟩
   .split at h
    .rename_i hk
     obtain⟨i,d,E,i2,i3,i4,i5,G,rfl⟩:=inv hk.1;obtain⟨O,d',V,M,Y,Z,j5,j6,rfl⟩:=inv hk.2;cases h;exact⟨_,by simp[Builtin.len_,run_underlying i2,run_underlying M,goInt] <;> exact rfl,RC.i _ _⟩
    .cases h
theorem jOz {lk:Operand->Av}{rc:Operand->Value}{o:Option Operand}{z n:Nat}(h:bnd lk o z=some n) (B:∀x,o=some x->TV w A mo fp (lk x) (rc x)):(o=none/\n=z)\/∃x k,o=some x/\rc x= .int k (n:Nat):=by
 cases o with
 |none=>cases h;exact .inl ⟨rfl,rfl⟩
 |some x=>
  obtain⟨k,e⟩:=jNg h (B x rfl);exact .inr ⟨x,k,rfl,e⟩
theorem jRY {rc:Operand->Value}{lo hi:Option Operand}{a b len cap:Nat}(G:Bool) (E:(lo=none/\a=0)\/∃x k,lo=some x/\rc x= .int k (a:Nat)) (B:(hi=none/\b=len)\/∃x k,hi=some x/\rc x= .int k (b:Nat)) (J:a<=b) (M:b<=cap) (P:Program):(Instr.sliceBounds G len cap (lo.map rc) (hi.map rc) none).run P w= .ok (a,b,cap) w:=by
 rcases E with⟨rfl,rfl⟩|⟨x,k,rfl,hx⟩ <;> rcases B with⟨rfl,rfl⟩|⟨y,k',rfl,hy⟩ <;> simp_all [Instr.sliceBounds,Instr.sliceBound,asIntOf]
theorem RE.drp {z:Nat}:∀{l:List (List C)}{vs:List Value}{F:List Nat}(a:Nat),RE w A z l vs F->F=[]->RE w A z (l.drop a) (vs.drop (a*z)) []
 |l,vs,F,0,h,e=>by subst e;simpa using h
 |[],vs,F,a+1,h,e=>by rw[List.drop_nil];exact .nil _ _
 |e ::l,vs,F,a+1,h,e'=>by
  cases h with
  |@cons _ _ _ _ F F' h1 h2 h3=>
   have:=RE.drp a h3 (List.append_eq_nil_iff.1 e').2;rw[List.drop_drop]at this;rw[List.drop_succ_cons,Nat.add_mul,Nat.one_mul,Nat.add_comm];exact this
theorem RE.tk {z:Nat}:∀{l:List (List C)}{vs:List Value}{F:List Nat}(n:Nat),RE w A z l vs F->F=[]->RE w A z (l.take n) vs []
 |l,vs,F,0,h,e=>by rw[List.take_zero];exact .nil _ _
 |[],vs,F,a+1,h,e=>by rw[List.take_nil];exact .nil _ _
 |e ::l,vs,F,a+1,h,e'=>by
  cases h with
  |@cons _ _ _ _ F F' h1 h2 h3=>
   obtain⟨rfl,rfl⟩:=List.append_eq_nil_iff.1 e';rw[List.take_succ_cons];exact .cons h1 h2 (RE.tk a h3 rfl)
theorem jVf (Z:SR T w A st mo fp a) {t:TypeId}{x r:Av}{u:Value}{lk:Operand->Av}{rc:Operand->Value}{lo hi:Option Operand}(hx:TV w A mo fp x u) (O:∀x,lo=some x->TV w A mo fp (lk x) (rc x)) (G:∀x,hi=some x->TV w A mo fp (lk x) (rc x)) (h:jMX T t x (bnd lk lo 0) (bnd lk hi) (lkr T st.rt)=some r):∃v,(Instr.sliceAt t u (lo.map rc) (hi.map rc) none).run T.P w= .ok v w/\TV w A mo fp r v:=by
 unfold jMX at h
 split at h
 .cases h
 .rename_i ia ha
  have ha:=jOz ha O
  split at h
  .rename_i hk
   obtain⟨i,d,i1,i2,i3,i4,i5,i6,rfl⟩:=inv hk
   split at h
   .rename_i s
    split at h
    .rename_i ib B
     have B:=jOz B G
     split at h
     .rename_i hle
      cases h;cases hx;have Y:=jRY (w:=w) (cap:=s.size) false ha B hle.1 hle.2 T.P;exact⟨.string (s.extract ia ib),by simp[Instr.sliceAt,run_underlying i2,Instr.slice,Y],RC.s _⟩
     .cases h
    .cases h
   .cases h
  .split at h
   .rename_i hk
    obtain⟨hk,h9,k1⟩:=hk;obtain⟨i,d,i1,i2,i3,i4,i5,i6,rfl⟩:=inv hk
    obtain⟨ke,h6⟩:∃k,(T.ti (T.ti t).el).kd=k+1:=⟨(T.ti (T.ti t).el).kd-1,by omega⟩
    obtain⟨i',d',j1,j2,j3,_⟩:=inv h6
    have V:∀g o len cap ib,((hi=none/\ib=len)\/∃x k,hi=some x/\rc x= .int k (ib:Nat))->ia<=ib->ib<=len->len<=cap->(Instr.sliceAt t (.slice (some ⟨g,o,none⟩) len cap) (lo.map rc) (hi.map rc) none).run T.P w= .ok (.slice (some (if cap=ia then⟨g,o,none⟩ else⟨g,o+ia*(T.ti (T.ti t).el).sz,none⟩)) (ib-ia) (cap-ia)) w:=fun g o len cap ib B h1 h2 h3=>by
     have Y:=jRY (w:=w) (cap:=cap) true ha B h1 (by omega) T.P;simp[Instr.sliceAt,run_underlying i2,Instr.slice,Y,sizeOf,typeInfo,j1,<-j3,Addr.add_lit]
     split <;> rfl
    split at h
    .rename_i p
     split at h
     .rename_i zz l hg
      split at h
      .rename_i ib B
       have B:=jOz B G
       split at h
       .rename_i hle
        cases h;obtain⟨v,F,q1,q2,q3⟩:=jgY Z hg;have:=jNb hx q3;subst this;obtain⟨g,cap,rfl,hc⟩:=jRJ q1 hle.2.2.1;exact⟨_,V g 0 _ cap ib B hle.1 hle.2.1 hc,g,_,cap,q3,hle.1,hle.2.1,hc,by rw[Nat.zero_add]⟩
       .cases h
      .cases h
     .cases h
    .rename_i zz l
     split at h
     .rename_i ib B
      have B:=jOz B G
      split at h
      .rename_i hle
       obtain⟨h8,J,M,h7⟩:=hle;cases h
       cases hx with
       |rn=>simp at M
       |re=>simp at M
       |@rf g off _ _ cap arr ty fz b1 b2 b3 b4 b5 b6=>
        refine⟨_,V g off _ cap ib B (by omega) J b5,?_⟩
        by_cases h5:ia=ib
        .subst h5
         rw[Nat.sub_self,List.take_zero];exact RC.re _ _ _
        rw[if_neg (by omega),<-h7]
        have E:((l.drop ia).take (ib-ia)).length=ib-ia:=by
         rw[List.length_take,List.length_drop];omega
        have:=RC.rf (w:=w) (A:=A) (g:=g) (off:=off+ia*zz) (l:=(l.drop ia).take (ib-ia)) (z:=zz) (cap:=cap-ia) b1 b2 b3 (by
         rw[E];have:ia*zz+(ib-ia)*zz=ib*zz:=by rw[<-Nat.add_mul];congr 1;omega
         have h4:ib*zz<=l.length*zz:=Nat.mul_le_mul_right _ J
         omega) (by rw[E];omega) (by
         have:=RE.tk (ib-ia) (RE.drp ia b6 rfl) rfl;rw[List.drop_drop]at this
         exact this)
        rw[E]at this;exact this
      .cases h
     .cases h
    .cases h
   .cases h
theorem RE.drp' {z:Nat}:∀{l:List (List C)}{vs:List Value}{F:List Nat}(a:Nat),RE w A z l vs F->∃F',RE w A z (l.drop a) (vs.drop (a*z)) F'/\∀g ∈ F',g ∈ F
 |l,vs,F,0,h=>⟨F,by simpa using h,fun _ h=>h⟩
 |[],vs,F,a+1,h=>⟨[],by rw[List.drop_nil];exact .nil _ _,fun _ h=>by cases h⟩
 |e ::l,vs,F,a+1,h=>by
  cases h with
  |@cons _ _ _ _ F F' h1 h2 h3=>
   obtain⟨G,q1,q2⟩:=RE.drp' a h3;rw[List.drop_drop]at q1;rw[List.drop_succ_cons,Nat.add_mul,Nat.one_mul,Nat.add_comm];exact⟨G,q1,fun g hg=>by simp[q2 g hg]⟩
theorem RE.tk' {z:Nat}:∀{l:List (List C)}{vs:List Value}{F:List Nat}(n:Nat),RE w A z l vs F->∃F',RE w A z (l.take n) vs F'/\F'.Sublist F
 |l,vs,F,0,h=>⟨[],by rw[List.take_zero];exact .nil _ _,List.nil_sublist _⟩
 |[],vs,F,a+1,h=>⟨[],by rw[List.take_nil];exact .nil _ _,List.nil_sublist _⟩
 |e ::l,vs,F,a+1,h=>by
  cases h with
  |@cons _ _ _ _ F F' h1 h2 h3=>
   obtain⟨G,q1,q2⟩:=RE.tk' a h3;rw[List.take_succ_cons];exact⟨_,.cons h1 h2 q1,List.Sublist.append (List.Sublist.refl _) q2⟩
theorem jVN (E:SR T w A st mo fp a) {x:Av}{u:Value}{l:List (List C)}(hx:TV w A mo fp x u) (h:rowOf x (lkr T st.rt)=some l):∃base cap,u= .slice base l.length cap/\l.length<=cap/\(l=[]\/∃g o z arr ty fz F,base=some ⟨g,o,none⟩/\w.heap[g]? =some (.cells arr ty fz)/\0<z/\o+l.length*z<=arr.size/\RE w A z l (arr.toList.drop o) F/\(A g\/∃k,g ∈ fp k)/\∀k ∈ F,∃r,k ∈ fp r):=by
 unfold rowOf at h
 split at h
 .cases h
  have hx:u= .slice none 0 0:=hx;exact⟨none,0,hx,Nat.le_refl _,.inl rfl⟩
 .rename_i o zz l
  cases h;have hx:RC w A (.r o zz l) u []:=hx;generalize hF:([]:List Nat)=F at hx
  cases hx with
  |rn=>exact⟨_,_,rfl,Nat.le_refl _,.inl rfl⟩
  |re _ a cap=>exact⟨_,_,rfl,Nat.zero_le _,.inl rfl⟩
  |ro=>cases hF
  |rf b1 b2 b3 b4 b5 b6=>exact⟨_,_,rfl,b5,.inr ⟨_,_,_,_,_,_,_,rfl,b2,b3,b4,b6,.inl b1,fun k hk=>by cases hk⟩⟩
 .rename_i p
  split at h
  .rename_i zz l hg
   cases h;obtain⟨v,F,q1,q2,q3⟩:=jgY E hg;have:=jNb hx q3;subst this
   cases q1 with
   |rn=>exact⟨_,_,rfl,Nat.le_refl _,.inl rfl⟩
   |ro b1 b2 b3 b4 b5 b6=>
    refine⟨_,_,rfl,b5,.inr ⟨_,0,_,_,_,_,_,rfl,b1,b3,?_,b6,.inr ⟨p.r,q2 _ (List.mem_cons_self ..)⟩,fun k hk=>⟨p.r,q2 k (List.mem_cons_of_mem _ hk)⟩⟩⟩;rw[Nat.zero_add];exact Nat.le_trans (Nat.mul_le_mul_right _ b5) b4
  .cases h
 .rename_i p z ia ib
  split at h
  .rename_i zz l hg
   split at h
   .rename_i hz
    subst hz;cases h;obtain⟨v,F,q1,q2,q3⟩:=jgY E hg;obtain⟨g,len,cap,O,Z,r3,r4,rfl⟩:=hx;have G:=O w (jJQ _ _);rw[q3 w (jJQ _ _)]at G;cases G
    cases q1 with
    |@ro _ _ F' _ _ arr ty fz b1 b2 b3 b4 b5 b6=>
     have B:((l.drop ia).take (ib-ia)).length=ib-ia:=by
      rw[List.length_take,List.length_drop];omega
     obtain⟨Y,P,s2⟩:=RE.drp' ia b6;obtain⟨J,V,t2⟩:=RE.tk' (ib-ia) P;refine⟨_,_,by rw[B],by rw[B];omega,?_⟩
     by_cases M:cap=ia
     .left
      exact List.eq_nil_of_length_eq_zero (by rw[B];omega)
     .right
      rw[if_neg M];refine⟨g,ia*zz,zz,arr,ty,fz,J,rfl,b1,b3,?_,V,.inr ⟨p.r,q2 _ (List.mem_cons_self ..)⟩,fun k hk=>⟨p.r,q2 k (List.mem_cons_of_mem _ (s2 k (t2.subset hk)))⟩⟩;rw[B,<-Nat.add_mul,show ia+(ib-ia)=ib by omega];exact Nat.le_trans (Nat.mul_le_mul_right _ (by omega)) b4
   .cases h
  .cases h
 .cases h
theorem jZy {e:List C}{b:UInt8}(h:byt e=some b) {us:List Value}{F:List Nat}(B:RL w A e us F):us=[.int .u8 (b.toNat:Nat)]:=by
 unfold byt at h
 split at h
 .rename_i n
  split at h
  .rename_i hn
   cases h
   cases B with
   |cons h1 h2=>
    cases h2;cases h1
    have:((UInt8.ofNat n.toNat).toNat:Int)=n:=by
     simp;omega
    rw[this]
  .cases h
 .cases h
theorem jT2:∀{l:List (List C)}{bs:List UInt8}{z:Nat}{vs:List Value}{F:List Nat},bytes l=some bs->RE w A z l vs F->l=[]\/(z=1/\bs.length=l.length/\vs.take l.length=bs.map fun b=>Value.int .u8 (b.toNat:Nat))
 |[],bs,z,vs,F,h,hr=>.inl rfl
 |e ::l,bs,z,vs,F,h,hr=>by
  unfold bytes at h
  split at h
  .rename_i b hb
   split at h
   .rename_i bs' hbs
    cases h
    cases hr with
    |cons h1 h2 h3=>
     have B:=jZy hb h2
     have J:z=1:=by
      have:=congrArg List.length B;rw[List.length_take]at this;simp at this;omega
     subst J
     right
     refine⟨rfl,?_⟩
     rcases jT2 hbs h3 with rfl|⟨_,E,G⟩
     .cases hbs
      exact⟨rfl,by simpa using B⟩
     .refine⟨by simp[E],?_⟩
      rw[List.length_cons,Nat.add_comm,List.take_add,B,G];rfl
   .cases h
  .cases h
theorem jZg (J:SR T w A st mo fp a) {s d:TypeId}{x r:Av}{u:Value}(hx:TV w A mo fp x u) (h:jMr T s d x (lkr T st.rt)=some r):∃v,(convert s d u).run T.P w= .ok v w/\TV w A mo fp r v:=by
 unfold jMr at h
 split at h
 .cases h
 .rename_i hs
  obtain⟨ks,Z⟩:∃k,(T.ti s).kd=k+1:=⟨(T.ti s).kd-1,by omega⟩
  obtain⟨i0,d0,h5,h1,_⟩:=inv Z
  split at h
  .rename_i hk
   obtain⟨i,d',i1,i2,i3,i4,i5,i6,rfl⟩:=inv hk
   split at h
   .cases h
    cases hx;exact⟨_,by simp[convert,run_underlying h1,run_underlying i2,Conv.intToInt] <;> exact rfl,RC.i _ _⟩
   .cases h
  .split at h
   .rename_i hk
    obtain⟨M,O,V,Y⟩:=hk;obtain⟨i,d',i1,i2,i3,i4,i5,i6,rfl⟩:=inv M;obtain⟨i',d',j1,j2,j3,j4,j5,j6,rfl⟩:=inv O;obtain⟨h4,d',k1,k2,k3,k4,k5,k6,rfl⟩:=inv V;rw[Y]at k2
    split at h
    .rename_i l hl
     split at h
     .rename_i us hus
      cases h;obtain⟨base,cap,rfl,h3,hc⟩:=jVN J hx hl;have G:=run_convert_bytes_string (P:=T.P) w s d (T.ti s).el base l.length cap j2 k2 i2
      rcases hc with rfl|⟨g,o,z,arr,ty,fz,F,rfl,b1,b2,b3,b4,_⟩
      .cases hus
       refine⟨.string ByteArray.empty,?_,RC.s _⟩;rw[G]
       cases base with
       |none=>simp[Conv.bytesToString]
       |some ad=>
        have B:=run_bytesToString (P:=T.P) w ad 0 cap [] (by simp[loadCells,loadCellsFrom]);simpa using B
      .rcases jT2 hus b4 with rfl|⟨rfl,e2,e3⟩
       .cases hus
        refine⟨.string ByteArray.empty,?_,RC.s _⟩;rw[G];have B:=run_bytesToString (P:=T.P) w ⟨g,o,none⟩ 0 cap [] (by simp[loadCells,loadCellsFrom]);simpa using B
       .have hl':=jPS (q:=o) (n:=l.length) b1 (by omega) T.P
        rw[e3]at hl';have B:=run_bytesToString (P:=T.P) w ⟨g,o,none⟩ l.length cap (us.map fun b=>((b.toNat:Nat):Int)) (by rw[hl',List.map_map];rfl);refine⟨_,by rw[G];exact B,?_⟩
        have:∀(us:List UInt8) (E:ByteArray),(us.map fun b=>((b.toNat:Nat):Int)).foldl (fun r n=>r.push (UInt8.ofNat n.toNat)) E=⟨E.data ++us.toArray⟩:=by
         intro us
         induction us with
         |nil=>intro E;simp
         |cons b us ih=>
          intro E;rw[List.map_cons,List.foldl_cons,ih];simp[ByteArray.push]
        rw[this];simp;exact RC.s _
     .cases h
    .cases h
   .cases h
end
end V
end Go.Proofs.YtnhbcdnmfafbiaaGreatDoor
