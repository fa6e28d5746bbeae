import Derived.Test.YtnhbcdnmfafbiaaGreatDoorM03
set_option linter.unusedVariables false
set_option linter.unusedSimpArgs false
set_option maxHeartbeats 20000000
namespace Go.Proofs.YtnhbcdnmfafbiaaGreatDoor
namespace V
open Go.RowKit
def cls:Av->Option (List C)
 | .c x=>some [x]
 | .ag l=>some l
 | .nl=>some [.r true 0 []]
 |_=>none
def jK0 (place:Nat->Option (Nat × Nat)):List (Nat × Option (List C))->List C->Option (List C)
 |[],cs=>some cs
 |(f,some vs) ::ps,cs=>match place f with
  |some q=>if vs.length=q.2/\q.1+q.2<=cs.length then jK0 place ps (ovl cs q.1 vs) else none
  |none=>none
 |(_,none) ::_,_=>none
def plS (T:Tb) (t:TypeId) (f:Nat):Option (Nat × Nat):=match (T.ti t).fs[f]? with
 |some q=>some (q.1,(T.ti q.2).sz)
 |none=>none
def plA (T:Tb) (t:TypeId) (j:Nat):Option (Nat × Nat):=some (j*(T.ti (T.ti t).el).sz,(T.ti (T.ti t).el).sz)
def jMs (T:Tb) (t:TypeId) (ps:List (Nat × Option (List C))):Option (List C):=match (T.ti t).z with
 |none=>none
 |some z=>if(T.ti t).kd=3 then(if(T.ti t).fs.all (fun q=>(T.ti q.2).kd != 0) then jK0 (plS T t) ps z else none)
  else if(T.ti t).kd=2/\(T.ti (T.ti t).el).kd≠0/\(T.ti (T.ti t).el).sz≠0 then jK0 (plA T t) ps z
  else none
def opR (T:Tb) (lk:Operand->Av) (rt:Nat->Option Rt):Op->Option Av
 | .move x=>some (lk x)
 | .assign x=>some (lk x)
 | .pick c a b=>match lk c with
   | .c (.b t)=>some (if t=true then lk a else lk b)
   |_=>none
 | .load t x=>jLY (T.ti t) (lk x) rt
 | .nilCheck x=>match lk x with
   | .pa p=>some (.pa p)
   | .ev l o=>some (.ev l o)
   |_=>none
 | .binOp op t x y _=>jKI (T.ti t) op (lk x) (lk y)
 | .unOp op _ x=>rUn op (lk x)
 | .convert s d x=>jMr T s d (lk x) rt
 | .slice t x lo hi none=>jMX T t (lk x) (bnd lk lo 0) (bnd lk hi) rt
 | .fieldAddr s x f=>jPb T s f (lk x)
 | .field s x f=>jPc T s f (lk x) rt
 | .indexAddr t x i=>jLZ T t (lk x) (lk i) rt
 | .index t x i=>jMY T t (lk x) (lk i) rt
 | .extract x k=>match lk x with
   | .tp l=>l[k]?
   |_=>none
 | .build t ps=>match jMs T t (ps.toList.map fun q=>(q.1,cls (lk q.2))) with
   |some l=>some (.ag l)
   |none=>none
 | .call ⟨.builtin .len,⟨[x]⟩,⟨[t]⟩⟩=>jMq T t (lk x) rt
 |_=>none
section
variable {T:Tb}{w w':World}{A A':Nat->Prop}{st:St}{mo:Nat->Mo}{fp:Nat->List Nat}{a:Nat->Value}
def ovr (arr:Array Value):Nat->List Value->Array Value
 |_,[]=>arr
 |o,v ::r=>ovr (arr.setIfInBounds o v) (o+1) r
theorem jMw:∀(vs:List Value) (o:Nat) (arr:Array Value),(ovr arr o vs).size=arr.size
 |[],_,_=>rfl
 |v ::r,o,arr=>by unfold ovr;rw[jMw r,Array.size_setIfInBounds]
theorem jPo:∀(vs:List Value) (o:Nat) (arr:Array Value) (j:Nat),o+vs.length<=arr.size->(ovr arr o vs)[j]? =if o<=j/\j<o+vs.length then vs[j-o]? else arr[j]?
 |[],o,arr,j,h=>by rw[if_neg (by simp only[List.length_nil];omega)];rfl
 |v ::r,o,arr,j,h=>by
  rw[List.length_cons]at h ⊢;unfold ovr;rw[jPo r (o+1) _ j (by rw[Array.size_setIfInBounds];omega)]
  by_cases B:o+1<=j/\j<o+1+r.length
  .rw[if_pos B,if_pos (by omega),show j-o=(j-(o+1))+1 by omega,List.getElem?_cons_succ]
  .rw[if_neg B]
   by_cases h2:j=o
   .rw[if_pos (by omega),h2,Nat.sub_self,List.getElem?_cons_zero,Array.getElem?_setIfInBounds_self_of_lt (by omega)]
   .rw[if_neg (by omega),Array.getElem?_setIfInBounds_ne (fun e=>h2 e.symm)]
theorem jM1 (vs:List Value) (o:Nat) (arr:Array Value) (h:o+vs.length<=arr.size):(ovr arr o vs).toList=arr.toList.take o ++vs ++arr.toList.drop (o+vs.length):=by
 apply List.ext_getElem?;intro j;rw[Array.getElem?_toList,jPo vs o arr j h]
 by_cases B:j<o
 .rw[if_neg (by omega),List.append_assoc,List.getElem?_append_left (by simp;omega),List.getElem?_take,if_pos B,Array.getElem?_toList]
 .by_cases h2:j<o+vs.length
  .rw[if_pos (by omega),List.append_assoc,List.getElem?_append_right (by simp;omega),List.getElem?_append_left (by simp;omega)]
   congr 1
   simp;omega
  .rw[if_neg (by omega),List.getElem?_append_right (by simp;omega),List.getElem?_drop,Array.getElem?_toList]
   congr 1
   simp;omega
theorem jNj:∀(vs:List Value) (i off:Nat) (cells:Array Value),(vs.zipIdx i).foldl (fun cs (p:Value × Nat)=>cs.setIfInBounds (off+p.2) p.1) cells=ovr cells (off+i) vs
 |[],i,off,cells=>rfl
 |v ::vs,i,off,cells=>by
  rw[List.zipIdx_cons,List.foldl_cons,jNj vs (i+1) off];rfl
theorem jPp {cs vs:List C}{arr:Array Value}{us:List Value}{off:Nat}{F:List Nat}(B:RL w A cs arr.toList []) (E:RL w A vs us F) (hl:off+vs.length<=cs.length):RL w A (ovl cs off vs) (ovr arr off us).toList F:=by
 have V:cs.length=arr.size:=B.len.trans (by simp);have h2:vs.length=us.length:=E.len;rw[jLo _ _ _ hl,jM1 us off arr (by omega)];obtain⟨O,Fs,P,hF,Y,J,M⟩:=B.foc hl;obtain⟨G,rfl⟩:=List.append_eq_nil_iff.1 hF.symm;obtain⟨rfl,rfl⟩:=List.append_eq_nil_iff.1 G;rw[<-h2];have:=RL.app (RL.app J E) M;simpa using this
theorem jQQ {x:Av}{u:Value}{l:List C}(h:cls x=some l) (hx:TV w A mo fp x u):RL w A l u.cells.toList []:=by
 unfold cls at h
 split at h
 .cases h
  have hx:RC w A _ u []:=hx
  have:u.cells=#[u]:=by
   have:=hx.one;cases u <;> first|rfl|cases this
  rw[this];exact .cons hx .nil
 .cases h
  obtain⟨arr,rfl,B⟩:=hx;exact B
 .cases h
  have hx:u= .slice none 0 0:=hx;subst hx;exact .cons (.rn true 0) .nil
 .cases h
theorem jQh (B:Nat->Option (Nat × Nat)) {lk:Operand->Av}{rc:Operand->Value}:∀(ps:List (Nat × Operand)) (cells l:List C) (arr:Array Value),(∀q ∈ ps,TV w A mo fp (lk q.2) (rc q.2))->RL w A cells arr.toList []->jK0 B (ps.map fun q=>(q.1,cls (lk q.2))) cells=some l->∃arr':Array Value,Instr.fill B arr (ps.map fun q=>(q.1,rc q.2))=some arr'/\RL w A l arr'.toList []
 |[],cells,l,arr,_,hc,hf=>by cases hf;exact⟨arr,rfl,hc⟩
 |q ::ps,cells,l,arr,hq,hc,hf=>by
  rw[List.map_cons]at hf
  cases h1 :cls (lk q.2) with
  |none=>rw[h1]at hf;cases hf
  |some vs=>
   rw[h1]at hf;simp only[jK0]at hf
   cases h2 :B q.1 with
   |none=>rw[h2]at hf;cases hf
   |some os=>
    rw[h2]at hf;simp only at hf
    split at hf
    .rename_i G
     obtain⟨G,P⟩:=G;have M:=jQQ h1 (hq q (List.mem_cons_self ..));have Y:vs.length=(rc q.2).cells.size:=M.len.trans Array.length_toList;have V:cells.length=arr.size:=hc.len.trans Array.length_toList;obtain⟨arr',J,O⟩:=jQh B ps _ l _ (fun q' hq'=>hq q' (List.mem_cons_of_mem _ hq')) (jPp hc M (by omega)) hf;refine⟨arr',?_,O⟩;rw[List.map_cons];unfold Instr.fill;obtain⟨off,sz⟩:=os;simp only at G P J;simp only[h2];rw[if_neg (by simp;omega)];have E:=jNj (rc q.2).cells.toList 0 off arr;rw[Nat.add_zero]at E;rw[<-Array.foldl_toList,Array.toList_zipIdx];rw[E];exact J
    .cases hf
theorem jTB (B:Nat->Option (Nat × Nat)) {lk:Operand->Av}{rc:Operand->Value}{f:Nat}{x:Operand}{M:List C}{Fs:List Nat}(J:RL w A M (rc x).cells.toList Fs):∀(ps:List (Nat × Operand)) (cells l:List C) (arr:Array Value),(∀q ∈ ps,TV w A mo fp (lk q.2) (rc q.2))->RL w A cells arr.toList []->jK0 B ((ps.map fun q=>(q.1,cls (lk q.2))) ++[(f,some M)]) cells=some l->∃arr':Array Value,Instr.fill B arr ((ps ++[(f,x)]).map fun q=>(q.1,rc q.2))=some arr'/\RL w A l arr'.toList Fs
 |[],cells,l,arr,_,hc,hf=>by
  simp only[List.map_nil,List.nil_append,jK0]at hf
  cases h2 :B f with
  |none=>rw[h2]at hf;cases hf
  |some os=>
   rw[h2]at hf;simp only at hf
   split at hf
   .rename_i G
    obtain⟨G,O⟩:=G;cases hf;have Z:M.length=(rc x).cells.size:=J.len.trans Array.length_toList;have V:cells.length=arr.size:=hc.len.trans Array.length_toList;refine⟨_,?_,jPp hc J (by omega)⟩;simp only[List.nil_append,List.map_cons,List.map_nil];unfold Instr.fill;obtain⟨off,sz⟩:=os;simp only at G O;simp only[h2];rw[if_neg (by simp;omega)];have E:=jNj (rc x).cells.toList 0 off arr;rw[Nat.add_zero]at E;rw[<-Array.foldl_toList,Array.toList_zipIdx];rw[E];rfl
   .cases hf
 |q ::ps,cells,l,arr,hq,hc,hf=>by
  rw[List.map_cons,List.cons_append]at hf
  cases h1' :cls (lk q.2) with
  |none=>rw[h1']at hf;cases hf
  |some vs=>
   rw[h1']at hf;simp only[jK0]at hf
   cases h2 :B q.1 with
   |none=>rw[h2]at hf;cases hf
   |some os=>
    rw[h2]at hf;simp only at hf
    split at hf
    .rename_i G
     obtain⟨G,O⟩:=G;have Y:=jQQ h1' (hq q (List.mem_cons_self ..));have Z:vs.length=(rc q.2).cells.size:=Y.len.trans Array.length_toList;have V:cells.length=arr.size:=hc.len.trans Array.length_toList;obtain⟨arr',P,e2⟩:=jTB B J ps _ l _ (fun q' hq'=>hq q' (List.mem_cons_of_mem _ hq')) (jPp hc Y (by omega)) hf;refine⟨arr',?_,e2⟩;rw[List.cons_append,List.map_cons];unfold Instr.fill;obtain⟨off,sz⟩:=os;simp only at G O P;simp only[h2];rw[if_neg (by simp;omega)];have E:=jNj (rc q.2).cells.toList 0 off arr;rw[Nat.add_zero]at E;rw[<-Array.foldl_toList,Array.toList_zipIdx];rw[E];exact P
    .cases hf
theorem jRX {α β:Type}{g:α->Sem β}{r:α->β}(P:Program):∀(l:List α),(∀a ∈ l,(g a).run P w= .ok (r a) w)->(l.mapM g).run P w= .ok (l.map r) w
 |[],_=>rfl
 |a ::l,h=>by
  have ih:=jRX (r:=r) P l (fun b hb=>h b (List.mem_cons_of_mem _ hb));rw[List.mapM_cons];simp only[Sem.run_bind,h a (List.mem_cons_self ..),Result.andThen_ok,ih,Sem.run_pure,List.map_cons]
theorem jVF {α β:Type}{g:α->Sem β}{r:α->β}(P:Program) (l:Array α) (h:∀a ∈ l.toList,(g a).run P w= .ok (r a) w):(l.mapM g).run P w= .ok (l.map r) w:=by
 rw[Array.mapM_eq_mapM_toList,Sem.run_map,jRX P l.toList h];simp only[Result.andThen_ok]
 congr 1
 exact Array.ext' (by simp)
theorem jT4 {t:TypeId}{ps:Array (Nat × Operand)}{rc:Operand->Value}{Z:List (Nat × Option (List C))}{l:List C}{F:List Nat}(hf:∀(place:Nat->Option (Nat × Nat)) (cells:List C) (arr:Array Value),RL w A cells arr.toList []->jK0 place Z cells=some l->∃arr':Array Value,Instr.fill place arr (ps.toList.map fun q=>(q.1,rc q.2))=some arr'/\RL w A l arr'.toList F) (h:jMs T t Z=some l):∃arr,(Instr.build t (ps.map fun q=>(q.1,rc q.2))).run T.P w= .ok (.agg arr) w/\RL w A l arr.toList F:=by
 have G:(ps.map fun(q:Nat × Operand)=>(q.1,rc q.2)).toList=ps.toList.map fun q=>(q.1,rc q.2):=by simp
 unfold jMs at h
 split at h
 .cases h
 .rename_i z hz
  split at h
  .rename_i hk
   obtain⟨i,d,O,i2,i3,i4,i5,i6,fs,rfl,i8⟩:=inv hk;obtain⟨u,J,E⟩:=i5 z hz
   split at h
   .rename_i hall
    rw[i8,List.all_eq_true]at hall
    have hm:=jVF (w:=w) (g:=fun(f:Field)=>(do pure (f.offset,<-sizeOf f.type):Sem (Nat × Nat))) (r:=fun f=>(f.offset,(T.ti f.type).sz)) T.P fs (fun f hf=>by
     have:=hall (f.offset,f.type) (List.mem_map.2 ⟨f,hf,rfl⟩);have:(T.ti f.type).kd≠0:=by simpa using this
     obtain⟨k,h1⟩:∃k,(T.ti f.type).kd=k+1:=⟨(T.ti f.type).kd-1,by omega⟩
     obtain⟨M,d',V,j2,Y,_⟩:=inv h1
     simp[sizeOf,typeInfo,V,Y])
    obtain⟨arr',q1,q2⟩:=hf (plS T t) z u.cells (jMg E) h
    have B:(fun(j:Nat)=>(fs.map fun f=>(f.offset,(T.ti f.type).sz))[j]?)=plS T t:=by
     funext j
     unfold plS;rw[i8,List.getElem?_map,Array.getElem?_toList,Array.getElem?_map];cases fs[j]? <;> rfl
    refine⟨arr',?_,q2⟩;simp only[Instr.build,Sem.run_bind,zeroValue,typeInfo,run_program,Result.andThen_ok,O,Sem.run_pure,J,run_underlying i2,hm];rw[B,G,q1];rfl
   .cases h
  .split at h
   .rename_i hk
    obtain⟨hk,h4,h5⟩:=hk;obtain⟨i,d,O,i2,i3,i4,i5,i6,rfl⟩:=inv hk;obtain⟨u,J,E⟩:=i5 z hz
    obtain⟨ke,h3⟩:∃k,(T.ti (T.ti t).el).kd=k+1:=⟨(T.ti (T.ti t).el).kd-1,by omega⟩
    obtain⟨M,d',V,j2,Y,_⟩:=inv h3;obtain⟨arr',q1,q2⟩:=hf (plA T t) z u.cells (jMg E) h;have B:(fun(j:Nat)=>some (j*M.size,M.size))=plA T t:=by rw[<-Y];rfl
    refine⟨arr',?_,q2⟩;simp only[Instr.build,Sem.run_bind,zeroValue,typeInfo,run_program,Result.andThen_ok,O,Sem.run_pure,J,run_underlying i2,sizeOf,V];rw[B,G,q1];rfl
   .cases h
theorem jT3 {t:TypeId}{ps:Array (Nat × Operand)}{lk:Operand->Av}{rc:Operand->Value}{l:List C}(hp:∀q ∈ ps.toList,TV w A mo fp (lk q.2) (rc q.2)) (h:jMs T t (ps.toList.map fun q=>(q.1,cls (lk q.2)))=some l):∃arr,(Instr.build t (ps.map fun q=>(q.1,rc q.2))).run T.P w= .ok (.agg arr) w/\RL w A l arr.toList []:=jT4 (fun place cells arr hc hf=>jQh place ps.toList cells l arr hp hc hf) h
theorem jSm (E:SR T w A st mo fp a) {lk:Operand->Av}{rc:Operand->Value}{o:Oper}{r:Av}(hx:∀x ∈ o.op.operands.toList,TV w A mo fp (lk x) (rc x)) (h:opR T lk (lkr T st.rt) o.op=some r):∃v,(execOp rc o).run T.P w= .ok (.value v) w/\TV w A mo fp r v:=by
 unfold opR at h
 split at h
 .rename_i x ho
  rw[ho]at hx;cases h;exact⟨rc x,by simp[execOp,ho],hx x (by simp[Op.operands])⟩
 .rename_i x ho
  rw[ho]at hx;cases h;exact⟨rc x,by simp[execOp,ho],hx x (by simp[Op.operands])⟩
 .rename_i c x y ho
  rw[ho]at hx;have J:=hx c (by simp[Op.operands])
  split at h
  .rename_i t e
   rw[e]at J;cases h;have J:RC w A (.b t) (rc c) []:=J;generalize G:rc c=vc at J;cases J
   cases t with
   |true=>exact⟨rc x,by simp[execOp,ho,G,asBool],by simpa using hx x (by simp[Op.operands])⟩
   |false=>exact⟨rc y,by simp[execOp,ho,G,asBool],by simpa using hx y (by simp[Op.operands])⟩
  .cases h
 .rename_i t x ho
  rw[ho]at hx;obtain⟨v,B,h2,_⟩:=jSQ E (hx x (by simp[Op.operands])) h;exact⟨v,by simp[execOp,ho,B],h2⟩
 .rename_i x ho
  rw[ho]at hx;have hx:=hx x (by simp[Op.operands])
  split at h
  .rename_i p e
   rw[e]at hx;cases h;obtain⟨g,q,V,M⟩:=hx;exact⟨rc x,by simp[execOp,ho,M],g,q,V,M⟩
  .rename_i l q e
   rw[e]at hx;cases h;obtain⟨g,q,arr,ty,fz,V,M,Z,e4,Y⟩:=hx;exact⟨rc x,by simp[execOp,ho,Y],g,q,arr,ty,fz,V,M,Z,e4,Y⟩
  .cases h
 .rename_i op t x y t' ho
  rw[ho]at hx;obtain⟨v,B,h2⟩:=jt5 h (hx x (by simp[Op.operands])) (hx y (by simp[Op.operands])) x y;unfold jKW at B;simp only[Sem.run_bind]at B;exact⟨v,by simp only[execOp,ho,Sem.run_bind,B,Result.andThen_ok,Sem.run_pure],h2⟩
 .rename_i op t x ho
  rw[ho]at hx;obtain⟨v,B,h2⟩:=jxf (T:=T) h (hx x (by simp[Op.operands]));exact⟨v,by simp only[execOp,ho,Sem.run_bind,B,Result.andThen_ok,Sem.run_pure],h2⟩
 .rename_i s d x ho
  rw[ho]at hx;obtain⟨v,B,h2⟩:=jZg E (hx x (by simp[Op.operands])) h;exact⟨v,by simp only[execOp,ho,Sem.run_bind,B,Result.andThen_ok,Sem.run_pure],h2⟩
 .rename_i t x lo hi ho
  rw[ho]at hx;obtain⟨v,B,h2⟩:=jVf E (lo:=lo) (hi:=hi) (hx x (by simp[Op.operands])) (fun y hy=>hx y (by simp[Op.operands,hy])) (fun y hy=>hx y (by simp[Op.operands,hy])) h;exact⟨v,by simp only[execOp,ho,Sem.run_bind,Option.map_none,B,Result.andThen_ok,Sem.run_pure],h2⟩
 .rename_i s x f ho
  rw[ho]at hx;obtain⟨v,B,h2⟩:=jYO (hx x (by simp[Op.operands])) h;exact⟨v,by simp only[execOp,ho,Sem.run_bind,B,Result.andThen_ok,Sem.run_pure],h2⟩
 .rename_i s x f ho
  rw[ho]at hx;obtain⟨v,B,h2⟩:=jYN E (hx x (by simp[Op.operands])) h;exact⟨v,by simp only[execOp,ho,Sem.run_bind,B,Result.andThen_ok,Sem.run_pure],h2⟩
 .rename_i t x i ho
  rw[ho]at hx;obtain⟨v,B,h2⟩:=jYg E (hx x (by simp[Op.operands])) (hx i (by simp[Op.operands])) h;exact⟨v,by simp only[execOp,ho,Sem.run_bind,B,Result.andThen_ok,Sem.run_pure],h2⟩
 .rename_i t x i ho
  rw[ho]at hx;obtain⟨v,B,h2⟩:=jYf E (hx x (by simp[Op.operands])) (hx i (by simp[Op.operands])) h;exact⟨v,by simp only[execOp,ho,Sem.run_bind,B,Result.andThen_ok,Sem.run_pure],h2⟩
 .rename_i x k ho
  rw[ho]at hx;have hx:=hx x (by simp[Op.operands])
  split at h
  .rename_i l e
   rw[e]at hx;obtain⟨arr,G,h3,ht⟩:=hx;have hk:=(List.getElem?_eq_some_iff.1 h).1;have O:arr[k]? =some arr[k]:=Array.getElem?_eq_getElem (by omega);have:=ht k r arr[k] h O;refine⟨arr[k],by simp[execOp,ho,Instr.extract,G,O],?_⟩;cases r <;> first|exact this|cases this
  .cases h
 .rename_i t ps ho
  rw[ho]at hx
  split at h
  .rename_i l hl
   cases h;obtain⟨arr,B,h2⟩:=jT3 (T:=T) (rc:=rc) (fun q hq=>hx q.2 (by simp only[Op.operands];exact List.mem_map.2 ⟨q,hq,rfl⟩)) hl;exact⟨.agg arr,by simp only[execOp,ho,Sem.run_bind,B,Result.andThen_ok,Sem.run_pure],arr,rfl,h2⟩
  .cases h
 .rename_i x t ho
  rw[ho]at hx;obtain⟨v,B,h2⟩:=jXE (ty:=o.type) E (hx x (by simp[Op.operands,Call.operands])) h;exact⟨v,by simp[execOp,ho,resolve,invoke,builtin,B],h2⟩
 .cases h
end
def upT:List (Nat × Av)->Nat->Av->List (Nat × Av)
 |[],t,v=>[(t,v)]
 |(k,x) ::l,t,v=>if k=t then(k,v) ::l else(k,x) ::upT l t v
def upR:List (Nat × Rt)->Nat->Rt->List (Nat × Rt)
 |[],t,v=>[(t,v)]
 |(k,x) ::l,t,v=>if k=t then(k,v) ::l else(k,x) ::upR l t v
theorem jSR:∀(l:List (Nat × Av)) (t:Nat) (v:Av) (k:Nat),lkt (upT l t v) k=if k=t then v else lkt l k
 |[],t,v,k=>by
  simp only[upT,lkt]
  by_cases h:k=t
  .rw[if_pos h.symm,if_pos h]
  .rw[if_neg (fun e=>h e.symm),if_neg h]
 |(j,x) ::l,t,v,k=>by
  simp only[upT]
  by_cases h:j=t
  .rw[if_pos h]
   simp only[lkt]
   by_cases hk:k=t
   .rw[if_pos hk,if_pos (by omega)]
   .rw[if_neg hk,if_neg (by omega),if_neg (by omega)]
  .rw[if_neg h]
   simp only[lkt];rw[jSR l t v k]
   by_cases B:j=k
   .rw[if_pos B,if_pos B,if_neg (by omega)]
   .rw[if_neg B,if_neg B]
theorem jKo (T:Tb):∀(l:List (Nat × Rt)) (t:Nat) (v:Rt) (k:Nat),lkr T (upR l t v) k=if k=t then some v else lkr T l k
 |[],t,v,k=>by
  simp only[upR,lkr]
  by_cases h:k=t
  .rw[if_pos h.symm,if_pos h]
  .rw[if_neg (fun e=>h e.symm),if_neg h]
 |(j,x) ::l,t,v,k=>by
  simp only[upR]
  by_cases h:j=t
  .rw[if_pos h]
   simp only[lkr]
   by_cases hk:k=t
   .rw[if_pos hk,if_pos (by omega)]
   .rw[if_neg hk,if_neg (by omega),if_neg (by omega)]
  .rw[if_neg h]
   simp only[lkr];rw[jKo T l t v k]
   by_cases B:j=k
   .rw[if_pos B,if_pos B,if_neg (by omega)]
   .rw[if_neg B,if_neg B]
def hit (r o n m:Nat) (p:Pth):Bool:=p.r == r && (!p.p.isEmpty || (Nat.blt p.o (o+n) && Nat.blt o (p.o+m)))
def jPZ (r o n:Nat):Av->Av
 | .pa p=>if p.r == r && !p.p.isEmpty && !(p.p.tail.isEmpty && (Nat.blt p.o o || Nat.ble (o+n) p.o)) then .u else .pa p
 | .lo p=>if hit r o n 1 p then .u else .lo p
 | .la p m=>if hit r o n m p then .u else .la p m
 | .sb p z a b=>if hit r o n 1 p then .u else .sb p z a b
 |x=>x
def jK9 (r o n:Nat):Av->Av
 | .tp l=>.tp (l.map (jPZ r o n))
 |x=>jPZ r o n x
def jKt (r o n:Nat) (l:List (Nat × Av)):List (Nat × Av):=l.map fun q=>(q.1,jK9 r o n q.2)
theorem jSS (r o n:Nat):∀(l:List (Nat × Av)) (t:Nat),lkt (jKt r o n l) t=jK9 r o n (lkt l t)
 |[],t=>rfl
 |(k,v) ::l,t=>by
  show(if k=t then jK9 r o n v else lkt (jKt r o n l) t)=jK9 r o n (if k=t then v else lkt l t);rw[jSS r o n l t]
  split <;> rfl
def jPC (r:Nat):Av->Av
 | .pa p=>if p.r == r then .u else .pa p
 | .lo p=>if p.r == r then .u else .lo p
 | .la p m=>if p.r == r then .u else .la p m
 | .sb p z a b=>if p.r == r then .u else .sb p z a b
 |x=>x
def jM8 (r:Nat):Av->Av
 | .tp l=>.tp (l.map (jPC r))
 |x=>jPC r x
def jKs (r:Nat) (l:List (Nat × Av)):List (Nat × Av):=l.map fun q=>(q.1,jM8 r q.2)
theorem jPT (r:Nat):∀(l:List (Nat × Av)) (t:Nat),lkt (jKs r l) t=jM8 r (lkt l t)
 |[],t=>rfl
 |(k,v) ::l,t=>by
  show(if k=t then jM8 r v else lkt (jKs r l) t)=jM8 r (if k=t then v else lkt l t);rw[jPT r l t]
  split <;> rfl
def upd {α:Type}(f:Nat->α) (k:Nat) (v:α):Nat->α:=fun j=>if j=k then v else f j
theorem jqp {α:Type}(f:Nat->α) (k:Nat) (v:α):upd f k v k=v:=if_pos rfl
theorem upd_ne {α:Type}{f:Nat->α}{k j:Nat}{v:α}(h:j≠k):upd f k v j=f j:=if_neg h
section
variable {T:Tb}{w w':World}{A A':Nat->Prop}{st:St}{mo mo':Nat->Mo}{fp fp':Nat->List Nat}{a:Nat->Value}{X X':List Nat}
theorem TV0.keep {r o n:Nat}(O:∀k,A k->A' k/\w'.heap[k]? =w.heap[k]?) (hk:∀k,k≠r->mo' k=mo k/\fp' k=fp k/\Agr (fp k) w w') (P:(mo' r).k=(mo r).k/\(mo' r).o=(mo r).o/\(mo' r).vs.length=(mo r).vs.length/\∀i,(i<o\/o+n<=i)->(mo' r).vs[i]? =(mo r).vs[i]?) {x:Av}{v:Value}(h:TV0 w A mo fp x v):TV0 w' A' mo' fp' (jPZ r o n x) v:=by
 have vl:∀{p:Pth}{m:Nat}{us:List Value},hit r o n m p=false->(∀w',Agr (fp p.r) w w'->vls w' (mo p.r) p m=some us)->∀J,Agr (fp' p.r) w' J->vls J (mo' p.r) p m=some us:=by
  intro p m us E Z J Y
  by_cases e:p.r=r
  .simp only[hit,e,BEq.rfl,Bool.true_and,Bool.or_eq_false_iff,Bool.not_eq_false',List.isEmpty_iff]at E
   obtain⟨hp,E⟩:=E;have B:=Z w (jJQ _ _);rw[e]at B ⊢;unfold vls at B ⊢;rw[hp]at B ⊢;simp only at B ⊢;rw[P.2.2.1]
   split at B
   .rename_i hle
    rw[if_pos hle,<-B]
    congr 1
    apply List.ext_getElem?;intro i;rw[List.getElem?_take,List.getElem?_take]
    by_cases hi:i<m
    .rw[if_pos hi,if_pos hi,List.getElem?_drop,List.getElem?_drop]
     refine P.2.2.2 _ ?_;rcases Nat.lt_or_ge p.o (o+n)with g1|g1
     .rcases Nat.lt_or_ge o (p.o+m)with g2|g2
      .have G:Nat.blt p.o (o+n)=true:=Nat.ble_eq_true_of_le g1
       have M:Nat.blt o (p.o+m)=true:=Nat.ble_eq_true_of_le g2;rw[G,M]at E;cases E
      .omega
     .omega
    .rw[if_neg hi,if_neg hi]
   .cases B
  .obtain⟨G,M,V⟩:=hk p.r e
   rw[G];rw[M]at Y;exact Z J (V.trans Y)
 cases x with
 |c x=>exact RC.st h O fun k hk=>by cases hk
 |ag l=>obtain⟨arr,e,h⟩:=h;exact⟨arr,e,h.st O fun k hk=>by cases hk⟩
 |nl=>exact h
 |pa p=>
  show TV0 w' A' mo' fp' (if p.r == r && !p.p.isEmpty && !(p.p.tail.isEmpty && (Nat.blt p.o o || Nat.ble (o+n) p.o)) then .u else .pa p) v
  split
  .trivial
  .rename_i E
   obtain⟨g,q,B,h2⟩:=h;refine⟨g,q,fun J Y=>?_,h2⟩
   by_cases e:p.r=r
   .have B:=B w (jJQ _ _)
    cases hpp :p.p with
    |nil=>
     rw[hpp,e]at B;rw[e];simp only[ad]at B ⊢;rw[P.1,P.2.1];exact B
    |cons y l=>
     rw[e,hpp]at E
     cases l with
     |cons y2 l=>simp at E
     |nil=>
      have ho:p.o<o\/o+n<=p.o:=by
       simp only[BEq.rfl,Bool.true_and,List.isEmpty_cons,List.tail_cons,List.isEmpty_nil,Bool.not_false,Bool.not_eq_true,Bool.not_eq_false',Bool.or_eq_true]at E;rcases E with q|q
       .exact .inl (Nat.le_of_ble_eq_true q)
       .exact .inr (Nat.le_of_ble_eq_true q)
      obtain⟨z,j,q'⟩:=y;rw[hpp,e]at B;rw[e];simp only[ad]at B ⊢;rw[P.2.2.2 _ ho];refine Eq.trans ?_ B
      congr 1
   .obtain⟨G,M,V⟩:=hk p.r e
    rw[G];rw[M]at Y;exact B J (V.trans Y)
 |lo p=>
  show TV0 w' A' mo' fp' (if hit r o n 1 p then .u else .lo p) v
  split
  .trivial
  .rename_i E;exact vl (by simpa using E) h
 |la p m=>
  show TV0 w' A' mo' fp' (if hit r o n m p then .u else .la p m) v
  split
  .trivial
  .rename_i E
   obtain⟨arr,G,M,h⟩:=h;exact⟨arr,G,M,vl (by simpa using E) h⟩
 |sb p z ia ib=>
  show TV0 w' A' mo' fp' (if hit r o n 1 p then .u else .sb p z ia ib) v
  split
  .trivial
  .rename_i E
   obtain⟨g,len,cap,B,h2⟩:=h;exact⟨g,len,cap,vl (by simpa using E) B,h2⟩
 |ev l o=>
  obtain⟨g,q,arr,ty,fz,G,M,V,e4,e5⟩:=h;exact⟨g,q,arr,ty,fz,(O g G).1,(O g G).2.trans M,V,e4.st O fun k hk=>(by cases hk),e5⟩
 |tp l=>cases h
 |u=>trivial
theorem tv0 {x:Av}{v:Value}(h:TV0 w A mo fp x v):TV w A mo fp x v:=by cases x <;> first|exact h|cases h
theorem TV.keep {r o n:Nat}(B:∀k,A k->A' k/\w'.heap[k]? =w.heap[k]?) (hk:∀k,k≠r->mo' k=mo k/\fp' k=fp k/\Agr (fp k) w w') (E:(mo' r).k=(mo r).k/\(mo' r).o=(mo r).o/\(mo' r).vs.length=(mo r).vs.length/\∀i,(i<o\/o+n<=i)->(mo' r).vs[i]? =(mo r).vs[i]?) {x:Av}{v:Value}(h:TV w A mo fp x v):TV w' A' mo' fp' (jK9 r o n x) v:=by
 cases x with
 |tp l=>
  obtain⟨arr,G,J,h⟩:=h;refine⟨arr,G,by rw[J,List.length_map],fun j x u hx hu=>?_⟩;rw[List.getElem?_map]at hx
  cases hl :l[j]? with
  |none=>rw[hl]at hx;cases hx
  |some y=>rw[hl]at hx;cases hx;exact TV0.keep B hk E (h j y u hl hu)
 |c x=>exact tv0 (TV0.keep (x:=.c x) B hk E h)
 |ag l=>exact tv0 (TV0.keep (x:=.ag l) B hk E h)
 |nl=>exact tv0 (TV0.keep (x:=.nl) B hk E h)
 |pa p=>exact tv0 (TV0.keep (x:=.pa p) B hk E h)
 |lo p=>exact tv0 (TV0.keep (x:=.lo p) B hk E h)
 |la p m=>exact tv0 (TV0.keep (x:=.la p m) B hk E h)
 |sb p z ia ib=>exact tv0 (TV0.keep (x:=.sb p z ia ib) B hk E h)
 |ev l o=>exact tv0 (TV0.keep (x:=.ev l o) B hk E h)
 |u=>exact tv0 (TV0.keep (x:=.u) B hk E h)
theorem TV0.off {r:Nat}(J:∀k,A k->A' k/\w'.heap[k]? =w.heap[k]?) (hk:∀k,k≠r->mo' k=mo k/\fp' k=fp k/\Agr (fp k) w w') {x:Av}{v:Value}(h:TV0 w A mo fp x v):TV0 w' A' mo' fp' (jPC r x) v:=by
 have ne:∀{p:Pth},¬(p.r == r)=true->p.r≠r:=fun h e=>h (by rw[e];exact BEq.rfl)
 cases x with
 |c x=>exact RC.st h J fun k hk=>by cases hk
 |ag l=>obtain⟨arr,e,h⟩:=h;exact⟨arr,e,h.st J fun k hk=>by cases hk⟩
 |nl=>exact h
 |pa p=>
  show TV0 w' A' mo' fp' (if p.r == r then .u else .pa p) v
  split
  .trivial
  .rename_i hh
   obtain⟨B,E,G⟩:=hk p.r (ne hh);obtain⟨g,q,M,h2⟩:=h;exact⟨g,q,fun w'' hw=>by rw[B];rw[E]at hw;exact M w'' (G.trans hw),h2⟩
 |lo p=>
  show TV0 w' A' mo' fp' (if p.r == r then .u else .lo p) v
  split
  .trivial
  .rename_i hh
   obtain⟨B,E,G⟩:=hk p.r (ne hh);exact fun w'' hw=>by rw[B];rw[E]at hw;exact h w'' (G.trans hw)
 |la p m=>
  show TV0 w' A' mo' fp' (if p.r == r then .u else .la p m) v
  split
  .trivial
  .rename_i hh
   obtain⟨B,E,G⟩:=hk p.r (ne hh);obtain⟨arr,q1,q2,h⟩:=h;exact⟨arr,q1,q2,fun w'' hw=>by rw[B];rw[E]at hw;exact h w'' (G.trans hw)⟩
 |sb p z ia ib=>
  show TV0 w' A' mo' fp' (if p.r == r then .u else .sb p z ia ib) v
  split
  .trivial
  .rename_i hh
   obtain⟨B,E,G⟩:=hk p.r (ne hh);obtain⟨g,len,cap,M,h2⟩:=h;exact⟨g,len,cap,fun w'' hw=>by rw[B];rw[E]at hw;exact M w'' (G.trans hw),h2⟩
 |ev l o=>
  obtain⟨g,q,arr,ty,fz,B,E,G,O,P⟩:=h;exact⟨g,q,arr,ty,fz,(J g B).1,(J g B).2.trans E,G,O.st J fun k hk=>(by cases hk),P⟩
 |tp l=>cases h
 |u=>trivial
theorem TV.off {r:Nat}(B:∀k,A k->A' k/\w'.heap[k]? =w.heap[k]?) (hk:∀k,k≠r->mo' k=mo k/\fp' k=fp k/\Agr (fp k) w w') {x:Av}{v:Value}(h:TV w A mo fp x v):TV w' A' mo' fp' (jM8 r x) v:=by
 cases x with
 |tp l=>
  obtain⟨arr,E,G,h⟩:=h;refine⟨arr,E,by rw[G,List.length_map],fun j x u hx hu=>?_⟩;rw[List.getElem?_map]at hx
  cases hl :l[j]? with
  |none=>rw[hl]at hx;cases hx
  |some y=>rw[hl]at hx;cases hx;exact TV0.off B hk (h j y u hl hu)
 |c x=>exact tv0 (TV0.off (x:=.c x) B hk h)
 |ag l=>exact tv0 (TV0.off (x:=.ag l) B hk h)
 |nl=>exact tv0 (TV0.off (x:=.nl) B hk h)
 |pa p=>exact tv0 (TV0.off (x:=.pa p) B hk h)
 |lo p=>exact tv0 (TV0.off (x:=.lo p) B hk h)
 |la p m=>exact tv0 (TV0.off (x:=.la p m) B hk h)
 |sb p z ia ib=>exact tv0 (TV0.off (x:=.sb p z ia ib) B hk h)
 |ev l o=>exact tv0 (TV0.off (x:=.ev l o) B hk h)
 |u=>exact tv0 (TV0.off (x:=.u) B hk h)
theorem TV0.same (B:∀k,A k->A' k/\w'.heap[k]? =w.heap[k]?) (hk:∀k,Agr (fp k) w w') {x:Av}{v:Value}(h:TV0 w A mo fp x v):TV0 w' A' mo fp x v:=by
 cases x with
 |c x=>exact RC.st h B fun k hk=>by cases hk
 |ag l=>obtain⟨arr,e,h⟩:=h;exact⟨arr,e,h.st B fun k hk=>by cases hk⟩
 |nl=>exact h
 |pa p=>obtain⟨g,q,E,h2⟩:=h;exact⟨g,q,fun w'' hw=>E w'' ((hk p.r).trans hw),h2⟩
 |lo p=>exact fun w'' hw=>h w'' ((hk p.r).trans hw)
 |la p m=>obtain⟨arr,q1,q2,h⟩:=h;exact⟨arr,q1,q2,fun w'' hw=>h w'' ((hk p.r).trans hw)⟩
 |sb p z ia ib=>obtain⟨g,len,cap,E,h2⟩:=h;exact⟨g,len,cap,fun w'' hw=>E w'' ((hk p.r).trans hw),h2⟩
 |ev l o=>
  obtain⟨g,q,arr,ty,fz,G,J,M,O,P⟩:=h;exact⟨g,q,arr,ty,fz,(B g G).1,(B g G).2.trans J,M,O.st B fun k hk=>(by cases hk),P⟩
 |tp l=>cases h
 |u=>trivial
theorem TV.same (B:∀k,A k->A' k/\w'.heap[k]? =w.heap[k]?) (hk:∀k,Agr (fp k) w w') {x:Av}{v:Value}(h:TV w A mo fp x v):TV w' A' mo fp x v:=by
 cases x with
 |tp l=>obtain⟨arr,E,G,h⟩:=h;exact⟨arr,E,G,fun j x u hx hu=>TV0.same B hk (h j x u hx hu)⟩
 |c x=>exact tv0 (TV0.same (x:=.c x) B hk h)
 |ag l=>exact tv0 (TV0.same (x:=.ag l) B hk h)
 |nl=>exact h
 |pa p=>exact tv0 (TV0.same (x:=.pa p) B hk h)
 |lo p=>exact tv0 (TV0.same (x:=.lo p) B hk h)
 |la p m=>exact tv0 (TV0.same (x:=.la p m) B hk h)
 |sb p z ia ib=>exact tv0 (TV0.same (x:=.sb p z ia ib) B hk h)
 |ev l o=>exact tv0 (TV0.same (x:=.ev l o) B hk h)
 |u=>trivial
structure SX (T:Tb) (w:World) (A:Nat->Prop) (st:St) (mo:Nat->Mo) (fp:Nat->List Nat) (a:Nat->Value) (X:List Nat):Prop where
 sr:SR T w A st mo fp a
 nd:X.Nodup
 na:∀g ∈ X,¬A g
 dj:∀g ∈ X,∀k,g ∉ fp k
 lt:∀g ∈ X,g<w.heap.size
theorem jKa (E:SR T w A st mo fp a) {k g:Nat}(B:g ∈ fp k):g<w.heap.size:=by
 cases hR :lkr T st.rt k with
 |none=>rw[E.nf k hR]at B;cases B
 |some R=>
  have h:=E.rts k R hR;unfold jJM at h
  split at h
  .rw[h]at B;cases B
  .split at h
   .exact h.lt g B
   .obtain⟨F',arr,hF,hL,_⟩:=h
    rw[hF]at B;rcases List.mem_cons.1 B with rfl|B
    .exact(Array.getElem?_eq_some_iff.1 hL.blk).1
    .exact hL.rl.lt g B
theorem jLd (E:SR T w A st mo fp a) {r:Nat}{R:Rt}(hR:lkr T st.rt r=some R) (G:own R=true) {k:Nat}(hk:k≠r) {g:Nat}(B:g ∈ fp k):g ∉ fp r:=by
 cases hK :lkr T st.rt k with
 |none=>rw[E.nf k hK]at B;cases B
 |some K=>exact fun hr=>E.dj r k R K (Ne.symm hk) hR hK G g hr B
theorem jJM.stay {R:Rt}{m:Mo}{F:List Nat}(h:jJM w A R m F) (G:∀k,A k->A' k/\w'.heap[k]? =w.heap[k]?) (hF:Agr F w w'):jJM w' A' R m F:=by
 unfold jJM at h ⊢
 split
 .rename_i h9
  rw[if_pos h9]at h;exact h
 .rename_i h9
  rw[if_neg h9]at h
  split
  .rename_i hv
   rw[if_pos hv]at h;exact h.st G hF
  .rename_i hv
   rw[if_neg hv]at h;obtain⟨F',arr,E,B,q1,q2,q3,q4⟩:=h;rw[E]at hF;exact⟨F',arr,E,⟨(hF _ (List.mem_cons_self ..)).trans B.blk,B.okz,B.le,B.rl.st G fun k hk=>hF k (List.mem_cons_of_mem _ hk)⟩,q1,q2,q3,q4⟩
theorem SX.turn (B:SX T w A st mo fp a X) {r o n:Nat}{R R':Rt}{m':Mo}{F':List Nat}(hR:lkr T st.rt r=some R) (M:own R=true) (h4:own R'=true) (hk:(mo r).k=m'.k/\(mo r).o=m'.o/\m'.vs.length=(mo r).vs.length/\∀i,(i<o\/o+n<=i)->m'.vs[i]? =(mo r).vs[i]?) (h5:r<1000000)
 (hw:∀k,k<w.heap.size->k ∉ fp r->k ∉ X->w'.heap[k]? =w.heap[k]?) (h6:w.heap.size<=w'.heap.size) (hA:∀k,A k->A' k/\k<w.heap.size) (O:∀k,A' k->A k\/k ∈ fp r\/k ∈ X\/w.heap.size<=k)
 (h':jJM w' A' R' m' F') (hF:F'.Nodup) (V:∀g ∈ F',¬A' g) (J:∀g ∈ F',g ∈ fp r\/g ∈ X\/w.heap.size<=g)
 (hX:X'.Nodup) (Y:∀g ∈ X',¬A' g) (G:∀g ∈ X',(g ∈ fp r\/g ∈ X\/w.heap.size<=g)/\g ∉ F'/\g<w'.heap.size) :
 SX T w' A' ⟨jKt r o n st.tm,upR st.rt r R'⟩ (upd mo r m') (upd fp r F') a X':=by
 have h3:∀k,A k->k ∉ fp r:=fun k hk hr=>B.sr.fa r R hR M k hr hk
 have P:∀k,A k->A' k/\w'.heap[k]? =w.heap[k]?:=fun k hk=>⟨(hA k hk).1,hw k (hA k hk).2 (h3 k hk) fun hx=>B.na k hx hk⟩
 have Z:∀k,k≠r->Agr (fp k) w w':=fun k hk g hgk=>hw g (jKa B.sr hgk) (jLd B.sr hR M hk hgk) fun hx=>B.dj g hx k hgk
 have E:∀k,k≠r->∀g,(g ∈ fp r\/g ∈ X\/w.heap.size<=g)->g ∉ fp k:=fun k hk g hg hgk=>by
  rcases hg with h|h|h
  .exact jLd B.sr hR M hk hgk h
  .exact B.dj g h k hgk
  .have:=jKa B.sr hgk;omega
 refine⟨⟨fun k K hK=>?_,fun k K hK=>?_,fun k K hK hoK g hgk=>?_,fun k k' K K' hne hK hK' hoK g hgk=>?_,fun t=>?_,fun k hK=>?_,fun g cs h=>?_⟩,hX,Y,fun g hg k=>?_,fun g hg=>(G g hg).2.2⟩
 .rw[jKo]at hK
  by_cases e:k=r
  .subst e
   rw[if_pos rfl]at hK;cases hK;rw[jqp,jqp];exact h'
  .rw[if_neg e]at hK
   rw[upd_ne e,upd_ne e];exact(B.sr.rts k K hK).stay P (Z k e)
 .rw[jKo]at hK
  by_cases e:k=r
  .subst e;rw[jqp];exact hF
  .rw[if_neg e]at hK;rw[upd_ne e];exact B.sr.nd k K hK
 .rw[jKo]at hK
  by_cases e:k=r
  .subst e;rw[jqp]at hgk;exact V g hgk
  .rw[if_neg e]at hK
   rw[upd_ne e]at hgk;intro h1;rcases O g h1 with h|h
   .exact B.sr.fa k K hK hoK g hgk h
   .exact E k e g h hgk
 .rw[jKo]at hK hK'
  by_cases e:k=r
  .subst e
   rw[jqp]at hgk;rw[upd_ne (Ne.symm hne)];exact E k' (Ne.symm hne) g (J g hgk)
  .rw[if_neg e]at hK
   rw[upd_ne e]at hgk
   by_cases e':k'=r
   .subst e'
    rw[jqp];exact fun hg'=>E k e g (J g hg') hgk
   .rw[if_neg e']at hK'
    rw[upd_ne e'];exact B.sr.dj k k' K K' hne hK hK' hoK g hgk
 .rw[jSS]
  refine TV.keep P (fun k hk=>⟨upd_ne hk,upd_ne hk,Z k hk⟩) ?_ (B.sr.tms t);rw[jqp];exact⟨hk.1.symm,hk.2.1.symm,hk.2.2.1,hk.2.2.2⟩
 .rw[jKo]at hK
  by_cases e:k=r
  .rw[if_pos e]at hK;cases hK
  .rw[if_neg e]at hK;rw[upd_ne e];exact B.sr.nf k hK
 .rw[upd_ne (by omega)];exact B.sr.gl g cs h
 .by_cases e:k=r
  .subst e;rw[jqp];exact(G g hg).2.1
  .rw[upd_ne e];exact E k e g (G g hg).1
theorem SX.lay (B:SX T w A st mo fp a X) {r:Nat}{R':Rt}{m':Mo}{F':List Nat}(ho:∀R,lkr T st.rt r=some R->own R=true) (h4:r<1000000)
 (hw:∀k,k<w.heap.size->k ∉ fp r->k ∉ X->w'.heap[k]? =w.heap[k]?) (h5:w.heap.size<=w'.heap.size) (hA:∀k,A k->A' k/\k<w.heap.size) (M:∀k,A' k->A k\/k ∈ fp r\/k ∈ X\/w.heap.size<=k)
 (h':jJM w' A' R' m' F') (hF:F'.Nodup) (P:own R'=true->∀g ∈ F',¬A' g) (J:∀g ∈ F',g ∈ fp r\/g ∈ X\/w.heap.size<=g)
 (hX:X'.Nodup) (V:∀g ∈ X',¬A' g) (G:∀g ∈ X',(g ∈ fp r\/g ∈ X\/w.heap.size<=g)/\g ∉ F'/\g<w'.heap.size) :
 SX T w' A' ⟨jKs r st.tm,upR st.rt r R'⟩ (upd mo r m') (upd fp r F') a X':=by
 have Z:∀k,k≠r->∀g,g ∈ fp k->g ∉ fp r:=fun k hk g hgk hgr=>by
  cases hR :lkr T st.rt r with
  |none=>rw[B.sr.nf r hR]at hgr;cases hgr
  |some R=>exact jLd B.sr hR (ho R hR) hk hgk hgr
 have h3:∀k,A k->k ∉ fp r:=fun k hk hr=>by
  cases hR :lkr T st.rt r with
  |none=>rw[B.sr.nf r hR]at hr;cases hr
  |some R=>exact B.sr.fa r R hR (ho R hR) k hr hk
 have O:∀k,A k->A' k/\w'.heap[k]? =w.heap[k]?:=fun k hk=>⟨(hA k hk).1,hw k (hA k hk).2 (h3 k hk) fun hx=>B.na k hx hk⟩
 have Y:∀k,k≠r->Agr (fp k) w w':=fun k hk g hgk=>hw g (jKa B.sr hgk) (Z k hk g hgk) fun hx=>B.dj g hx k hgk
 have E:∀k,k≠r->∀g,(g ∈ fp r\/g ∈ X\/w.heap.size<=g)->g ∉ fp k:=fun k hk g hg hgk=>by
  rcases hg with h|h|h
  .exact Z k hk g hgk h
  .exact B.dj g h k hgk
  .have:=jKa B.sr hgk;omega
 refine⟨⟨fun k K hK=>?_,fun k K hK=>?_,fun k K hK hoK g hgk=>?_,fun k k' K K' hne hK hK' hoK g hgk=>?_,fun t=>?_,fun k hK=>?_,fun g cs h=>?_⟩,hX,V,fun g hg k=>?_,fun g hg=>(G g hg).2.2⟩
 .rw[jKo]at hK
  by_cases e:k=r
  .subst e
   rw[if_pos rfl]at hK;cases hK;rw[jqp,jqp];exact h'
  .rw[if_neg e]at hK
   rw[upd_ne e,upd_ne e];exact(B.sr.rts k K hK).stay O (Y k e)
 .rw[jKo]at hK
  by_cases e:k=r
  .subst e;rw[jqp];exact hF
  .rw[if_neg e]at hK;rw[upd_ne e];exact B.sr.nd k K hK
 .rw[jKo]at hK
  by_cases e:k=r
  .subst e;rw[if_pos rfl]at hK;cases hK;rw[jqp]at hgk;exact P hoK g hgk
  .rw[if_neg e]at hK
   rw[upd_ne e]at hgk;intro h1;rcases M g h1 with h|h
   .exact B.sr.fa k K hK hoK g hgk h
   .exact E k e g h hgk
 .rw[jKo]at hK hK'
  by_cases e:k=r
  .subst e
   rw[jqp]at hgk;rw[upd_ne (Ne.symm hne)];exact E k' (Ne.symm hne) g (J g hgk)
  .rw[if_neg e]at hK
   rw[upd_ne e]at hgk
   by_cases e':k'=r
   .subst e'
    rw[jqp];exact fun hg'=>E k e g (J g hg') hgk
   .rw[if_neg e']at hK'
    rw[upd_ne e'];exact B.sr.dj k k' K K' hne hK hK' hoK g hgk
 .rw[jPT]
  exact TV.off O (fun k hk=>⟨upd_ne hk,upd_ne hk,Y k hk⟩) (B.sr.tms t)
 .rw[jKo]at hK
  by_cases e:k=r
  .rw[if_pos e]at hK;cases hK
  .rw[if_neg e]at hK;rw[upd_ne e];exact B.sr.nf k hK
 .rw[upd_ne (by omega)];exact B.sr.gl g cs h
 .by_cases e:k=r
  .subst e;rw[jqp];exact(G g hg).2.1
  .rw[upd_ne e];exact E k e g (G g hg).1
end
def jKK:List (Nat × Rt)->Nat->List (Nat × Rt)
 |[],_=>[]
 |(k,x) ::l,t=>if k=t then jKK l t else(k,x) ::jKK l t
theorem jK8 (T:Tb):∀(l:List (Nat × Rt)) (t:Nat) (k:Nat),t<1000000->lkr T (jKK l t) k=if k=t then none else lkr T l k
 |[],t,k,ht=>by
  simp only[jKK,lkr]
  by_cases h:k=t
  .subst h
   rw[if_pos rfl,T.gl0 k ht]
  .rw[if_neg h]
 |(j,x) ::l,t,k,ht=>by
  simp only[jKK]
  by_cases h:j=t
  .rw[if_pos h,jK8 T l t k ht]
   simp only[lkr]
   by_cases hk:k=t
   .rw[if_pos hk,if_pos hk]
   .rw[if_neg hk,if_neg hk,if_neg (by omega)]
  .rw[if_neg h]
   simp only[lkr];rw[jK8 T l t k ht]
   by_cases B:j=k
   .rw[if_pos B,if_pos B,if_neg (by omega)]
   .rw[if_neg B,if_neg B]
def uks (n:Nat):List C:=List.replicate n .uk
def takeP (T:Tb) (st:St) (p:Pth) (n:Nat):Option (List C × St):=if p.p.isEmpty && Nat.blt p.r 1000000 then match lkr T st.rt p.r with
 |some R=>if own R && !(R.kd == 9) then match gts R.cs p.o n with
  |some l=>if R.kd=2/\p.o=0/\n=R.cs.length then some (l,⟨jKs p.r st.tm,jKK st.rt p.r⟩) else some (l,⟨jKt p.r p.o n st.tm,upR st.rt p.r ⟨R.kd,ovl R.cs p.o (uks n)⟩⟩)
  |none=>none
  else none
 |none=>none else none
def takeN (T:Tb) (st:St) (p:Pth) (n:Nat):Option (List C × St):=if Nat.blt p.r 1000000 then match lkr T st.rt p.r with
 |some R=>if own R && !(R.kd == 9) then match gL p.p R.cs p.o n with
  |some l=>match sL p.p R.cs p.o (uks n) with
   |some cs=>some (l,⟨jKt p.r p.o 0 st.tm,upR st.rt p.r ⟨R.kd,cs⟩⟩)
   |none=>none
  |none=>none
  else none
 |none=>none else none
def takeQ (T:Tb) (st:St) (p:Pth) (n:Nat):Option (List C × St):=if p.p.isEmpty then takeP T st p n else takeN T st p n
def takeV (T:Tb) (st:St):Av->Option (List C × St)
 | .c x=>some ([x],st)
 | .ag l=>some (l,st)
 | .nl=>some ([.r true 0 []],st)
 | .lo p=>takeP T st p 1
 | .la p n=>takeQ T st p n
 | .sb p z 0 b=>match takeP T st p 1 with
   |some ([.r true zz l],st')=>some ([.r true zz (l.take b)],st')
   |_=>none
 | .pa p=>if p.o=0/\p.p.isEmpty/\p.r<1000000 then match lkr T st.rt p.r with
  |some R=>if R.kd=1 then some ([.bx R.cs],⟨jKs p.r st.tm,jKK st.rt p.r⟩) else none
  |none=>none
   else none
 |_=>none
section
variable {T:Tb}{w w':World}{A A':Nat->Prop}{st st':St}{mo mo':Nat->Mo}{fp fp':Nat->List Nat}{a:Nat->Value}{X X':List Nat}
theorem SX.put (B:SX T w A st mo fp a X) {d:Nat}{x:Av}{v:Value}(h:TV w A mo fp x v):SX T w A ⟨upT st.tm d x,st.rt⟩ mo fp (upd a d v) X:=by
 refine⟨⟨B.sr.rts,B.sr.nd,B.sr.fa,B.sr.dj,fun t=>?_,B.sr.nf,B.sr.gl⟩,B.nd,B.na,B.dj,B.lt⟩;show TV w A mo fp (lkt (upT st.tm d x) t) _;rw[jSR];unfold upd
 by_cases e:t=d
 .rw[if_pos e,if_pos e];exact h
 .rw[if_neg e,if_neg e];exact B.sr.tms t
theorem SX.drop (B:SX T w A st mo fp a X) {r:Nat}{R:Rt}(hR:lkr T st.rt r=some R) (J:own R=true) (E:r<1000000):SX T w A ⟨jKs r st.tm,jKK st.rt r⟩ mo (upd fp r []) a (fp r ++X):=by
 have M:∀k,k≠r->mo k=mo k/\upd fp r [] k=fp k/\Agr (fp k) w w:=fun k hk=>⟨rfl,upd_ne hk,jJQ _ _⟩
 refine⟨⟨fun k K hK=>?_,fun k K hK=>?_,fun k K hK hoK g hgk=>?_,fun k k' K K' hne hK hK' hoK g hgk=>?_,fun t=>?_,fun k hK=>?_,B.sr.gl⟩,?_,fun g hg=>?_,fun g hg k=>?_,fun g hg=>?_⟩
 .rw[jK8 T _ _ _ E]at hK
  by_cases e:k=r
  .rw[if_pos e]at hK;cases hK
  .rw[if_neg e]at hK;rw[upd_ne e];exact B.sr.rts k K hK
 .rw[jK8 T _ _ _ E]at hK
  by_cases e:k=r
  .rw[if_pos e]at hK;cases hK
  .rw[if_neg e]at hK;rw[upd_ne e];exact B.sr.nd k K hK
 .rw[jK8 T _ _ _ E]at hK
  by_cases e:k=r
  .rw[if_pos e]at hK;cases hK
  .rw[if_neg e]at hK;rw[upd_ne e]at hgk;exact B.sr.fa k K hK hoK g hgk
 .rw[jK8 T _ _ _ E]at hK hK'
  by_cases e:k=r
  .rw[if_pos e]at hK;cases hK
  .rw[if_neg e]at hK
   rw[upd_ne e]at hgk
   by_cases G:k'=r
   .rw[if_pos G]at hK';cases hK'
   .rw[if_neg G]at hK';rw[upd_ne G];exact B.sr.dj k k' K K' hne hK hK' hoK g hgk
 .show TV w A mo (upd fp r []) (lkt (jKs r st.tm) t) _
  rw[jPT];exact TV.off (fun k hk=>⟨hk,rfl⟩) M (B.sr.tms t)
 .rw[jK8 T _ _ _ E]at hK
  by_cases e:k=r
  .rw[e,jqp]
  .rw[if_neg e]at hK;rw[upd_ne e];exact B.sr.nf k hK
 .rw[List.nodup_append]
  exact⟨B.sr.nd r R hR,B.nd,fun x hx y hy e=>B.dj y hy r (by rw[<-e];exact hx)⟩
 .rcases List.mem_append.1 hg with h|h
  .exact B.sr.fa r R hR J g h
  .exact B.na g h
 .by_cases e:k=r
  .rw[e,jqp];exact fun h=>by cases h
  .rw[upd_ne e]
   rcases List.mem_append.1 hg with h|h
   .exact fun hk=>jLd B.sr hR J e hk h
   .exact B.dj g h k
 .rcases List.mem_append.1 hg with h|h
  .exact jKa B.sr h
  .exact B.lt g h
theorem SX.sub (B:SX T w A st mo fp a X) (hn:X'.Nodup) (h:∀g ∈ X',g ∈ X):SX T w A st mo fp a X':=⟨B.sr,hn,fun g hg=>B.na g (h g hg),fun g hg=>B.dj g (h g hg),fun g hg=>B.lt g (h g hg)⟩
theorem RL.uks {l:List C}{us:List Value}{F:List Nat}(h:RL w A l us F):RL w A (uks l.length) us []:=by
 induction l generalizing us F with
 |nil=>cases h;exact .nil
 |cons c l ih=>
  cases h with
  |cons h1 h2=>exact .cons (.uk h1.one) (ih h2)
theorem jUY (O:SR T w A st mo fp a) {p:Pth}{n:Nat}{l:List C}{R:Rt}(hp:p.p=[]) (hR:lkr T st.rt p.r=some R) (E:R.kd≠9) (P:gts R.cs p.o n=some l):∃F1 Fs F2 us,fp p.r=F1 ++Fs ++F2/\RL w A l us Fs/\us.length=n/\vls w (mo p.r) p n=some us/\jJM w A ⟨R.kd,ovl R.cs p.o (uks n)⟩ (mo p.r) (F1 ++F2):=by
 obtain⟨e1,e2,Z⟩:=jLH _ _ _ _ P;have B:=O.rts _ _ hR;have h4:=O.nd _ _ hR
 cases hv :isV R with
 |true=>
  unfold jJM at B;rw[if_neg E,hv,if_pos rfl]at B;obtain⟨F1,Fs,F2,hF,r1,r2,r3⟩:=B.foc Z;have hl:=B.len;refine⟨F1,Fs,F2,((mo p.r).vs.drop p.o).take n,hF,by rw[e1];exact r1,by simp;omega,?_,?_⟩
  .unfold vls
   rw[hp];simp only;rw[if_pos (by omega)]
  .unfold jJM
   rw[if_neg E,show isV ⟨R.kd,ovl R.cs p.o (uks n)⟩=true from hv,if_pos rfl];show RL w A (ovl R.cs p.o (uks n)) (mo p.r).vs _;have V:(uks n).length=n:=by simp[uks]
   rw[jLo _ _ _ (by rw[V];exact Z),V];have hq:=r1.uks;rw[<-e1,e2]at hq
   have J:(mo p.r).vs=(mo p.r).vs.take p.o ++(((mo p.r).vs.drop p.o).take n ++(mo p.r).vs.drop (p.o+n)):=by
    rw[<-List.drop_drop,List.take_append_drop,List.take_append_drop]
   rw[J,List.append_assoc];exact RL.app r2 (RL.app hq r3)
 |false=>
  obtain⟨g1,a1,Y,k7,k5,F1,Fs,F2,s1,s2,s3,s4,s5,s6,s7,s8,s9,h7⟩:=B.lens (pp:=[]) h4 (fun _=>hv) E P;obtain⟨k3,M,t1,t2,t3,t4,t5⟩:=h7 w A (uks n) [] ⟨by simp[uks],⟨Y,s2,rfl,fun _ _=>rfl,by have:=s6.uks;rw[s5]at this;exact this⟩,fun k hk=>⟨hk,rfl⟩,fun k _ _=>rfl⟩;have V:(uks n).length=n:=by simp[uks]
  simp only[sL]at t1;rw[if_pos (by rw[V];exact Z)]at t1;cases t1;refine⟨F1,Fs,F2,_,s7,s6,by simp;omega,?_,?_⟩
  .obtain⟨us,Fs',q1,q2,q3,q4,q5⟩:=O.cells (p:=p) (n:=n) (l:=l) (by unfold gP;rw[hR];simp only;rw[if_neg E,hp];exact P)
   obtain⟨g',q',h8,k6,k4,z1,z2,z3,z4⟩:=q5 (by unfold inM;rw[hp];simp only[hR,hv];rfl);have:=z1 w (jJQ _ _);rw[hp,s1]at this;cases this;rw[s2]at z2;cases z2;rw[q4 w (jJQ _ _),z4]
  .have J:M=(mo p.r).vs:=by
    unfold jJM at t4 B;have h5:isV ⟨R.kd,ovl R.cs p.o (uks n)⟩=false:=hv;rw[if_neg E,h5]at t4;rw[if_neg E,hv]at B;simp only[Bool.false_eq_true,if_false]at t4 B;obtain⟨_,k1,_,h1,G,_⟩:=t4;obtain⟨_,k2,_,h3,h6,_⟩:=B;have hb:=h1.blk;rw[show({mo p.r with vs:=M}:Mo).k=(mo p.r).k from rfl,h3.blk]at hb;cases hb;have G:M=_:=G;rw[G,h6];simp[jMx]
   rw[List.append_nil,J]at t4;exact t4
end
structure Cf where
 w:World
 A:Nat->Prop
 st:St
 mo:Nat->Mo
 fp:Nat->List Nat
 a:Nat->Value
 X:List Nat
structure Ok (T:Tb) (c:Cf):Prop where
 sx:SX T c.w c.A c.st c.mo c.fp c.a c.X
 al:∀k,c.A k->k<c.w.heap.size
def Ow (T:Tb) (c:Cf) (g:Nat):Prop:=(∃r R,lkr T c.st.rt r=some R/\own R=true/\g ∈ c.fp r)\/g ∈ c.X
def base (m:Mo):Nat × Nat × Array Value × TypeId × (Nat × Nat):=(m.k,m.o,m.a0,m.ty,m.fz)
structure Stp (T:Tb) (c c':Cf):Prop where
 low:Below 0 c.w c'.w
 kp:∀g,g<c.w.heap.size->¬Ow T c g->c'.w.heap[g]? =c.w.heap[g]?
 ow:∀g,Ow T c' g->Ow T c g\/c.w.heap.size<=g
 fa:∀g,c.A g->c'.A g
 fb:∀g,c'.A g->c.A g\/Ow T c g\/c.w.heap.size<=g
 pr:∀r R,lkr T c.st.rt r=some R->R.kd=0->∃R',lkr T c'.st.rt r=some R'/\R'.kd=0/\R'.cs.length=R.cs.length/\base (c'.mo r)=base (c.mo r)
 ro:∀r R,lkr T c'.st.rt r=some R->own R=false->R.kd≠9->lkr T c.st.rt r=some R/\c'.mo r=c.mo r/\c'.fp r=c.fp r
section
variable {T:Tb}{c c' c'':Cf}
theorem Stp.refl (c:Cf):Stp T c c:=⟨Below.refl _ _,fun _ _ _=>rfl,fun _ h=>.inl h,fun _ h=>h,fun _ h=>.inl h,fun r R h1 h2=>⟨R,h1,h2,rfl,rfl⟩,fun r R h _ _=>⟨h,rfl,rfl⟩⟩
theorem Stp.trans (h:Stp T c c') (E:Stp T c' c''):Stp T c c'':=by
 have V:=h.low.size;refine⟨h.low.trans E.low,fun g hg ho=>?_,fun g hg=>?_,fun g hg=>E.fa g (h.fa g hg),fun g hg=>?_,fun r R B h2=>?_,fun r R B h2 h3=>?_⟩
 .rw[E.kp g (by omega) (fun ho'=>?_),h.kp g hg ho]
  rcases h.ow g ho' with B|B
  .exact ho B
  .omega
 .rcases E.ow g hg with B|B
  .exact h.ow g B
  .exact .inr (by omega)
 .rcases E.fb g hg with B|B|B
  .exact h.fb g B
  .rcases h.ow g B with h2|h2
   .exact .inr (.inl h2)
   .exact .inr (.inr h2)
  .exact .inr (.inr (by omega))
 .obtain⟨R',e1,e2,e3,e4⟩:=h.pr r R B h2
  obtain⟨G,J,M,O,P⟩:=E.pr r R' e1 e2;exact⟨G,J,M,O.trans e3,P.trans e4⟩
 .obtain⟨a1,a2,a3⟩:=E.ro r R B h2 h3
  obtain⟨b1,b2,b3⟩:=h.ro r R a1 h2 h3;exact⟨b1,a2.trans b2,a3.trans b3⟩
theorem Stp.tmp {st':St}{E:Nat->Value}(h:st'.rt=c.st.rt):Stp T c {c with st:=st',a:=E}:=by
 refine⟨Below.refl _ _,fun _ _ _=>rfl,fun g hg=>?_,fun _ h=>h,fun _ h=>.inl h,fun r R B h2=>⟨R,by show lkr T st'.rt r=_;rw[h];exact B,h2,rfl,rfl⟩,fun r R B _ _=>⟨by have B:lkr T st'.rt r=some R:=B;rw[h]at B;exact B,rfl,rfl⟩⟩;unfold Ow at hg ⊢;simp only[h]at hg;exact .inl hg
theorem Ok.put (B:Ok T c) {d:Nat}{x:Av}{v:Value}(h:TV c.w c.A c.mo c.fp x v):Ok T {c with st:=⟨upT c.st.tm d x,c.st.rt⟩,a:=upd c.a d v}/\Stp T c {c with st:=⟨upT c.st.tm d x,c.st.rt⟩,a:=upd c.a d v}:=⟨⟨B.sx.put h,B.al⟩,Stp.tmp rfl⟩
theorem jNV {r:Nat}{R:Rt}(hR:lkr T c.st.rt r=some R) (E:own R=true) {g:Nat}(B:g ∈ c.fp r):Ow T c g:=.inl ⟨r,R,hR,E,B⟩
theorem Ok.turn (hc:Ok T c) {w':World}{A':Nat->Prop}{X':List Nat}{r o n:Nat}{R R':Rt}{m':Mo}{F':List Nat}(hR:lkr T c.st.rt r=some R) (J:own R=true) (V:R'.kd=R.kd) (Y:R'.cs.length=R.cs.length) (hb:base m'=base (c.mo r)) (h5:m'.vs.length=(c.mo r).vs.length) (h6:∀i,(i<o\/o+n<=i)->m'.vs[i]? =(c.mo r).vs[i]?) (h4:r<1000000)
 (hw:∀k,k<c.w.heap.size->k ∉ c.fp r->k ∉ c.X->w'.heap[k]? =c.w.heap[k]?) (hlow:Below 0 c.w w') (hA:∀k,c.A k->A' k) (G:∀k,A' k->(c.A k\/k ∈ c.fp r\/k ∈ c.X\/c.w.heap.size<=k)/\k<w'.heap.size)
 (h':jJM w' A' R' m' F') (hF:F'.Nodup) (Z:∀g ∈ F',¬A' g) (M:∀g ∈ F',g ∈ c.fp r\/g ∈ c.X\/c.w.heap.size<=g)
 (hX:X'.Nodup) (h1:∀g ∈ X',¬A' g) (O:∀g ∈ X',(g ∈ c.fp r\/g ∈ c.X\/c.w.heap.size<=g)/\g ∉ F'/\g<w'.heap.size) :
 Ok T ⟨w',A',⟨jKt r o n c.st.tm,upR c.st.rt r R'⟩,upd c.mo r m',upd c.fp r F',c.a,X'⟩/\Stp T c ⟨w',A',⟨jKt r o n c.st.tm,upR c.st.rt r R'⟩,upd c.mo r m',upd c.fp r F',c.a,X'⟩:=by
 have P:=hb;simp only[base,Prod.mk.injEq]at P;have h3:own R'=true:=by unfold own at J ⊢;rw[V];exact J
 have E:∀g,(g ∈ c.fp r\/g ∈ c.X\/c.w.heap.size<=g)->Ow T c g\/c.w.heap.size<=g:=fun g hg=>by
  rcases hg with h|h|h
  .exact .inl (jNV hR J h)
  .exact .inl (.inr h)
  .exact .inr h
 refine⟨⟨hc.sx.turn hR J h3 ⟨P.1.symm,P.2.1.symm,h5,h6⟩ h4 hw hlow.size (fun k hk=>⟨hA k hk,hc.al k hk⟩) (fun k hk=>(G k hk).1) h' hF Z M hX h1 O,fun k hk=>(G k hk).2⟩,hlow,fun g hg hno=>hw g hg (fun hg'=>hno (jNV hR J hg')) fun hx=>hno (.inr hx),fun g hg=>?_,hA,fun g hg=>?_,fun k K hK h0=>?_,fun k K hK hk h9=>?_⟩
 .rcases hg with⟨k,K,hK,hoK,B⟩|hg
  .have hK:lkr T (upR c.st.rt r R') k=some K:=hK
   have B:g ∈ upd c.fp r F' k:=B;rw[jKo]at hK
   by_cases e:k=r
   .rw[e,jqp]at B;exact E g (M g B)
   .rw[if_neg e]at hK;rw[upd_ne e]at B;exact .inl (.inl ⟨k,K,hK,hoK,B⟩)
  .exact E g (O g hg).1
 .rcases(G g hg).1 with h|h
  .exact .inl h
  .exact .inr (E g h)
 .show ∃R',lkr T (upR c.st.rt r _) k=some R'/\_
  rw[jKo]
  by_cases e:k=r
  .subst e
   rw[hR]at hK;cases hK;exact⟨R',if_pos rfl,by rw[V];exact h0,Y,by show base (upd c.mo k m' k)=_;rw[jqp];exact hb⟩
  .exact⟨K,by rw[if_neg e];exact hK,h0,rfl,by show base (upd c.mo r m' k)=_;rw[upd_ne e]⟩
 .have hK:lkr T (upR c.st.rt r R') k=some K:=hK
  rw[jKo]at hK
  by_cases e:k=r
  .rw[if_pos e]at hK;cases hK;rw[h3]at hk;cases hk
  .rw[if_neg e]at hK;exact⟨hK,upd_ne e,upd_ne e⟩
theorem Ok.lay (P:Ok T c) {w':World}{A':Nat->Prop}{X':List Nat}{r:Nat}{R':Rt}{m':Mo}{F':List Nat}(V:∀R,lkr T c.st.rt r=some R->own R=true/\R.kd≠0) (h3:r<1000000) (h1:own R'=true)
 (hw:∀k,k<c.w.heap.size->k ∉ c.fp r->k ∉ c.X->w'.heap[k]? =c.w.heap[k]?) (hlow:Below 0 c.w w') (hA:∀k,c.A k->A' k) (G:∀k,A' k->(c.A k\/k ∈ c.fp r\/k ∈ c.X\/c.w.heap.size<=k)/\k<w'.heap.size)
 (h':jJM w' A' R' m' F') (hF:F'.Nodup) (Y:own R'=true->∀g ∈ F',¬A' g) (J:∀g ∈ F',g ∈ c.fp r\/g ∈ c.X\/c.w.heap.size<=g)
 (hX:X'.Nodup) (Z:∀g ∈ X',¬A' g) (M:∀g ∈ X',(g ∈ c.fp r\/g ∈ c.X\/c.w.heap.size<=g)/\g ∉ F'/\g<w'.heap.size) :
 Ok T ⟨w',A',⟨jKs r c.st.tm,upR c.st.rt r R'⟩,upd c.mo r m',upd c.fp r F',c.a,X'⟩/\Stp T c ⟨w',A',⟨jKs r c.st.tm,upR c.st.rt r R'⟩,upd c.mo r m',upd c.fp r F',c.a,X'⟩:=by
 have O:∀g,g ∈ c.fp r->Ow T c g:=fun g hg=>by
  cases hR :lkr T c.st.rt r with
  |none=>rw[P.sx.sr.nf r hR]at hg;cases hg
  |some R=>exact jNV hR (V R hR).1 hg
 have E:∀g,(g ∈ c.fp r\/g ∈ c.X\/c.w.heap.size<=g)->Ow T c g\/c.w.heap.size<=g:=fun g hg=>by
  rcases hg with h|h|h
  .exact .inl (O g h)
  .exact .inl (.inr h)
  .exact .inr h
 refine⟨⟨P.sx.lay (fun R hR=>(V R hR).1) h3 hw hlow.size (fun k hk=>⟨hA k hk,P.al k hk⟩) (fun k hk=>(G k hk).1) h' hF Y J hX Z M,fun k hk=>(G k hk).2⟩,hlow,fun g hg hno=>hw g hg (fun hg'=>hno (O g hg')) fun hx=>hno (.inr hx),fun g hg=>?_,hA,fun g hg=>?_,fun k K hK h0=>?_,fun k K hK hk h9=>?_⟩
 .rcases hg with⟨k,K,hK,hoK,B⟩|hg
  .have hK:lkr T (upR c.st.rt r R') k=some K:=hK
   have B:g ∈ upd c.fp r F' k:=B;rw[jKo]at hK
   by_cases e:k=r
   .rw[e,jqp]at B;exact E g (J g B)
   .rw[if_neg e]at hK;rw[upd_ne e]at B;exact .inl (.inl ⟨k,K,hK,hoK,B⟩)
  .exact E g (M g hg).1
 .rcases(G g hg).1 with h|h
  .exact .inl h
  .exact .inr (E g h)
 .show ∃R',lkr T (upR c.st.rt r _) k=some R'/\_
  rw[jKo]
  by_cases e:k=r
  .subst e
   exact absurd h0 (V K hK).2
  .exact⟨K,by rw[if_neg e];exact hK,h0,rfl,by show base (upd c.mo r m' k)=_;rw[upd_ne e]⟩
 .have hK:lkr T (upR c.st.rt r R') k=some K:=hK
  rw[jKo]at hK
  by_cases e:k=r
  .rw[if_pos e]at hK;cases hK;rw[h1]at hk;cases hk
  .rw[if_neg e]at hK;exact⟨hK,upd_ne e,upd_ne e⟩
theorem Ok.drop (G:Ok T c) {r:Nat}{R:Rt}(hR:lkr T c.st.rt r=some R) (J:own R=true) (h0:R.kd≠0) (B:r<1000000):Ok T {c with st:=⟨jKs r c.st.tm,jKK c.st.rt r⟩,fp:=upd c.fp r [],X:=c.fp r ++c.X}/\Stp T c {c with st:=⟨jKs r c.st.tm,jKK c.st.rt r⟩,fp:=upd c.fp r [],X:=c.fp r ++c.X}:=by
 refine⟨⟨G.sx.drop hR J B,G.al⟩,Below.refl _ _,fun _ _ _=>rfl,fun g hg=>.inl ?_,fun _ h=>h,fun _ h=>.inl h,fun k K hK hk0=>?_,fun k K hK hk h9=>?_⟩
 .rcases hg with⟨k,K,hK,hoK,E⟩|hg
  .have hK:lkr T (jKK c.st.rt r) k=some K:=hK
   have E:g ∈ upd c.fp r [] k:=E;rw[jK8 T _ _ _ B]at hK
   by_cases e:k=r
   .rw[if_pos e]at hK;cases hK
   .rw[if_neg e]at hK;rw[upd_ne e]at E;exact .inl ⟨k,K,hK,hoK,E⟩
  .rcases List.mem_append.1 hg with h|h
   .exact jNV hR J h
   .exact .inr h
 .show ∃R',lkr T (jKK c.st.rt r) k=some R'/\_
  rw[jK8 T _ _ _ B]
  by_cases e:k=r
  .subst e;rw[hR]at hK;cases hK;exact absurd hk0 h0
  .exact⟨K,by rw[if_neg e];exact hK,hk0,rfl,rfl⟩
 .have hK:lkr T (jKK c.st.rt r) k=some K:=hK
  rw[jK8 T _ _ _ B]at hK
  by_cases e:k=r
  .rw[if_pos e]at hK;cases hK
  .rw[if_neg e]at hK;exact⟨hK,rfl,upd_ne e⟩
theorem Ok.xs (B:Ok T c) {X':List Nat}(hn:X'.Nodup) (h:∀g ∈ X',g ∈ c.X):Ok T {c with X:=X'}/\Stp T c {c with X:=X'}:=
 ⟨⟨B.sx.sub hn h,B.al⟩,Below.refl _ _,fun _ _ _=>rfl,fun g hg=>.inl (hg.elim (fun h=>.inl h) fun hx=>.inr (h g hx)),fun _ h=>h,fun _ h=>.inl h,fun r R h1 h2=>⟨R,h1,h2,rfl,rfl⟩,fun r R h _ _=>⟨h,rfl,rfl⟩⟩
end
end V
end Go.Proofs.YtnhbcdnmfafbiaaGreatDoor
