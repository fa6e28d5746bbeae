import Derived.Test.YtnhbcdnmfafbiaaGreatDoorM08
set_option linter.unusedVariables false
set_option linter.unusedSimpArgs false
set_option maxHeartbeats 20000000
namespace Go.Proofs.YtnhbcdnmfafbiaaGreatDoor
namespace V
open Go.RowKit
def jPd (H:Hx) (T:Tb) (s d:TypeId) (x:Av) (rt:Nat->Option Rt) (K:Av->Prop):Prop:=if(T.ti d).kd=4/\(T.ti s).kd=1/\(T.ti (T.ti s).el).kd=5/\(T.ti (T.ti s).el).ik= .u8 then li (rowOf x rt) fun l=>(∃us,bytes l=some us)/\∀us,bytes l=some us->K (.c (.s ⟨us.toArray⟩)) else li (jMr T s d x rt) K
theorem jWk {H:Hx}{T:Tb}{s d:TypeId}{x:Av}{rt:Nat->Option Rt}{K:Av->Prop}(h:jPd H T s d x rt K):∃v,jMr T s d x rt=some v/\K v:=by
 unfold jPd at h
 split at h
 .rename_i hk
  obtain⟨l,B,⟨us,h2⟩,E⟩:=jJ4 h;unfold jMr;rw[if_neg (by omega),if_neg (by omega),if_pos hk,B];simp only[h2];exact⟨_,rfl,E us h2⟩
 .exact jJ4 h
def jPu (H:Hx) (T:Tb) (lk:Operand->Av) (rt:Nat->Option Rt) (op:Op) (K:Av->Prop):Prop:=match op with
 | .load t x=>jO7 H (T.ti t) (lk x) rt K
 | .indexAddr t x i=>jPa H T t (lk x) (lk i) rt K
 | .index t x i=>jO9 H T t (lk x) (lk i) rt K
 | .binOp op t x y _=>jPe (T.ti t) op (lk x) (lk y) K
 | .call ⟨.builtin .len,⟨[x]⟩,⟨[t]⟩⟩=>jO8 H T t (lk x) rt K
 | .convert s d x=>jPd H T s d (lk x) rt K
 |op=>li (opR T lk rt op) K
def jMN (lk:Operand->Av) (o:Option Operand) (z:Nat) (K:Nat->Prop):Prop:=match o with
 |none=>K z
 |some x=>gN (lk x) K
def jR9 (H:Hx) (T:Tb) (t:TypeId) (x:Av) (lk:Operand->Av) (lo hi:Option Operand) (rt:Nat->Option Rt) (K:Av->Prop):Prop:=jMN lk lo 0 fun a=>if(T.ti t).kd=4 then(match x with
 | .c (.s s)=>jMN lk hi s.size fun b=>(a<=b/\b<=s.size)/\K (.c (.s (s.extract a b)))
 |_=>False)
    else if(T.ti t).kd=1/\(T.ti (T.ti t).el).kd≠0/\(T.ti (T.ti t).el).sz≠0 then(match x with
     | .lo p=>rwK H rt p fun zz l=>jMN lk hi l.length fun b=>if zz=(T.ti (T.ti t).el).sz then(a<=b/\b<=l.length/\0<l.length)/\K (.sb p (T.ti (T.ti t).el).sz a b) else False
     | .c (.r false zz l)=>jMN lk hi l.length fun b=>if zz=(T.ti (T.ti t).el).sz then(a<=b/\b<=l.length/\0<l.length)/\K (.c (.r false zz ((l.drop a).take (b-a)))) else False
     |_=>False)
    else False
def jPt (H:Hx) (T:Tb) (lk:Operand->Av) (rt:Nat->Option Rt) (op:Op) (K:Av->Prop):Prop:=match op with
 | .slice t x lo hi none=>jR9 H T t (lk x) lk lo hi rt K
 | .pick c a b=>match lk c with
   | .c (.b t)=>br t (K (lk a)) (K (lk b))
   |_=>False
 |op=>jPu H T lk rt op K
def jNL (H:Hx) (T:Tb) (st:St) (p:Pth) (l:List C) (K:St->Prop):Prop:=if Nat.blt p.r 1000000 && inM (lkr T st.rt) p then match lkr T st.rt p.r with
 |some R=>if own R && !(R.kd == 9) then sK H H.bt p.p R.cs p.o l fun cs=>K ⟨jKt p.r p.o (if p.p.isEmpty then l.length else 0) st.tm,upR st.rt p.r ⟨R.kd,cs⟩⟩ else False
 |none=>False else False
def jOS (H:Hx) (T:Tb) (st:St) (x:Av) (K:List C × St->Prop):Prop:=match x with
 | .la p n=>if p.p.isEmpty then li (takeV T st (.la p n)) K else if Nat.blt p.r 1000000 then match lkr T st.rt p.r with
   |some R=>if own R && !(R.kd == 9) then gK H H.bt p.p R.cs p.o n fun l=>sK H H.bt p.p R.cs p.o (uks n) fun cs=>K (l,⟨jKt p.r p.o 0 st.tm,upR st.rt p.r ⟨R.kd,cs⟩⟩) else False
   |none=>False else False
 |x=>li (takeV T st x) K
theorem jUZ {H:Hx}{T:Tb}{st:St}{x:Av}{K:List C × St->Prop}(h:jOS H T st x K):∃q,takeV T st x=some q/\K q:=by
 unfold jOS at h
 split at h
 .rename_i p n
  split at h
  .exact jJ4 h
  .rename_i hp
   split at h
   .rename_i hr
    split at h
    .rename_i R hR
     split at h
     .rename_i ho
      obtain⟨l,B,h2⟩:=jOk h;obtain⟨cs,E,G⟩:=jNO h2;refine⟨_,?_,G⟩;simp only[takeV,takeQ,takeN];rw[if_neg hp,if_pos hr];simp only[hR,B,E];rw[if_pos ho]
     .cases h
    .cases h
   .cases h
 .exact jJ4 h
def jPr (H:Hx) (T:Tb) (st:St) (t:TypeId) (x:Av) (ad:St->Av) (K:St->Prop):Prop:=if(T.ti t).kd=0 then False else jOS H T st (nlS T t x) fun q=>match ad q.2 with
    | .pa p=>if q.1.length=(T.ti t).sz then jNL H T q.2 p q.1 K else False
    |_=>False
def pln (l:List (List C)):Prop:=(l.all fun e=>e.all plain)=true
def jOX (H:Hx) (T:Tb) (st:St) (z:Nat) (x:Av) (K:List (List C) × St->Prop):Prop:=match x with
 | .lo p=>if lone (lkr T st.rt) p then li (jLk T st z (.lo p)) K
   else rwK H (lkr T st.rt) p fun zz l=>if zz=z then pln l/\K (l,st) else False
 | .c (.r o zz l)=>if zz=z then pln l/\K (l,st) else False
 | .sb p z' a b=>rwK H (lkr T st.rt) p fun zz l=>if zz=z'/\zz=z then pln ((l.drop a).take (b-a))/\K ((l.drop a).take (b-a),st) else False
 |x=>li (jLk T st z x) K
def jPA (H:Hx) (T:Tb) (st:St) (d:Nat) (ts tx:TypeId) (s:Av) (x:St->Av) (K:Av × St->Prop):Prop:=
 if(T.ti ts).kd=1/\(T.ti (T.ti ts).el).kd≠0/\0<(T.ti (T.ti ts).el).sz/\(T.ti (T.ti ts).el).bs<=25000/\((T.ti tx).kd=1\/(T.ti tx).kd=4) then match (T.ti (T.ti ts).el).z with
 |some ze=>if ze.length=(T.ti (T.ti ts).el).sz then match takeV T st s with
  |some ([.r true zz l],st1)=>if zz=(T.ti (T.ti ts).el).sz\/(zz=0/\l.isEmpty=true) then jOX H T st1 (T.ti (T.ti ts).el).sz (x st1) fun q=>l.length+q.1.length<=4000000000/\li (mkVal T q.2 d (.r true (T.ti (T.ti ts).el).sz (l ++q.1))) K
   else False
  |_=>False
  else False
 |none=>False
 else False
def jPv (T:Tb) (st:St) (d:Nat) (t:TypeId) (ln cp:Av) (K:Av × St->Prop):Prop:=
 if(T.ti t).kd=1/\(T.ti (T.ti t).el).kd≠0/\0<(T.ti (T.ti t).el).sz/\(T.ti (T.ti t).el).bs<=25000 then match (T.ti (T.ti t).el).z with
 |some ze=>if ze.length=(T.ti (T.ti t).el).sz then gN ln fun a=>gN cp fun b=>(a<=b/\b<=4000000000)/\li (mkVal T st d (.r true (T.ti (T.ti t).el).sz (List.replicate a ze))) K else False
 |_=>False
 else False
def isW:Op->Bool
 | .alloc _=>true
 | .box _ _=>true
 | .buildSlice _ _ _=>true
 | .makeSlice _ _ _=>true
 | .call ⟨.builtin .append,_,_⟩=>true
 | .assign _=>true
 | .build _ _=>true
 | .call ⟨.builtin .copy,_,_⟩=>true
 | .convert s t _=>decide (s=t)
 |_=>false
def jPw (T:Tb) (st:St) (td:TypeId) (x y:Av) (K:Av × St->Prop):Prop:=match x with
 | .lo p=>if jQP T p td then match lkr T st.rt p.r with
   |some R=>if own R && !(R.kd == 9) && !(isV R) then match R.cs[p.o]? with
    |some (.r true zo l0)=>li (jK4 y (lkr T st.rt)) fun q=>if zo=1/\q.1=1 then(q.2.length=l0.length/\0<q.2.length/\pln q.2)/\K (.c (.i .i64 (q.2.length:Nat)),⟨jKt p.r p.o 1 st.tm,upR st.rt p.r ⟨R.kd,R.cs.set p.o (.r true 1 q.2)⟩⟩) else False
    |_=>False
    else False
   |none=>False
   else False
 |_=>False
def jQg (d:Nat) (K:St->Prop):Av × St->Prop:=fun q=>K ⟨upT q.2.tm d q.1,q.2.rt⟩
def jOV (H:Hx) (T:Tb) (n:Nat) (fz:List Nat) (st:St) (o:Oper) (K:St->Prop):Prop:=match o.dst with
 |none=>match o.op with
  | .store t a x=>jPr H T st t (evo T st x) (fun s=>evo T s a) K
  |_=>False
 |some d=>if isW o.op then(match o.op with
  | .makeSlice t l c=>if d<n then jPv T st d t (evo T st l) (evo T st c) (jQg d K) else False
  | .call ⟨.builtin .copy,⟨[x,y]⟩,⟨[tx,ty]⟩⟩=>if d<n then jPw T st tx (evo T st x) (evo T st y) (jQg d K) else False
  | .call ⟨.builtin .append,⟨[s,x]⟩,⟨[ts,tx]⟩⟩=>if d<n then(if jLr (evo T st s) then jPA H T st d ts tx (evo T st s) (fun s'=>evo T s' x) (jQg d K) else False) else False
  |_=>li (jKG T n fz st o) K)
  else if d<n then jPt H T (evo T st) (lkr T st.rt) o.op fun v=>K ⟨upT st.tm d v,st.rt⟩ else False
section
variable {T:Tb}{H:Hx}{n:Nat}{fz:List Nat}{rt:Nat->Option Rt}
theorem jWF {lk:Operand->Av}{op:Op}{K:Av->Prop}(h:jPu H T lk rt op K):∃v,opR T lk rt op=some v/\K v:=by
 unfold jPu at h
 split at h
 .exact jWg h
 .exact jWj h
 .exact jWi h
 .exact jWl h
 .exact jWh h
 .exact jWk h
 .exact jJ4 h
theorem jOA {lk:Operand->Av}{o:Option Operand}{z:Nat}{K:Nat->Prop}(h:jMN lk o z K):∃b,bnd lk o z=some b/\K b:=by
 unfold jMN at h;unfold bnd
 split at h
 .exact⟨_,rfl,h⟩
 .exact jNh h
theorem jWf {t:TypeId}{x:Av}{lk:Operand->Av}{lo hi:Option Operand}{K:Av->Prop}(h:jR9 H T t x lk lo hi rt K):∃v,jMX T t x (bnd lk lo 0) (bnd lk hi) rt=some v/\K v:=by
 obtain⟨a,ha,h⟩:=jOA h;unfold jMX;rw[ha];simp only
 split at h
 .rename_i hk
  rw[if_pos hk]
  split at h
  .obtain⟨b,E,B,h2⟩:=jOA h
   simp only[E];rw[if_pos B];exact⟨_,rfl,h2⟩
  .cases h
 .rename_i hk
  split at h
  .rename_i hk2
   rw[if_neg hk,if_pos hk2]
   split at h
   .obtain⟨zz,l,hg,h⟩:=jMV h
    obtain⟨b,E,h⟩:=jOA h
    split at h
    .rename_i hz
     obtain⟨B,h2⟩:=h;simp only[hg,E];rw[if_pos ⟨B.1,B.2.1,B.2.2,hz⟩];exact⟨_,rfl,h2⟩
    .cases h
   .obtain⟨b,E,h⟩:=jOA h
    split at h
    .rename_i hz
     obtain⟨B,h2⟩:=h;simp only[E];rw[if_pos ⟨B.1,B.2.1,B.2.2,hz⟩];exact⟨_,rfl,h2⟩
    .cases h
   .cases h
  .cases h
theorem jQV {t:Bool}{P Q:Prop}(h:br t P Q):(t=true/\P)\/(t=false/\Q):=by
 cases t with
 |true=>exact .inl ⟨rfl,h.1 rfl⟩
 |false=>exact .inr ⟨rfl,h.2 rfl⟩
theorem jWE {lk:Operand->Av}{op:Op}{K:Av->Prop}(h:jPt H T lk rt op K):∃v,opR T lk rt op=some v/\K v:=by
 unfold jPt at h
 split at h
 .exact jWf h
 .split at h
  .rename_i t ht
   rcases jQV h with⟨e,B⟩|⟨e,B⟩ <;> subst e <;> exact⟨_,by simp only[opR,ht];rfl,B⟩
  .cases h
 .exact jWF h
theorem jRQ {st:St}{p:Pth}{l:List C}{K:St->Prop}(h:jNL H T st p l K):∃st',setP T st p l=some st'/\K st':=by
 unfold jNL at h;unfold setP
 split at h
 .rename_i hp
  rw[if_pos hp]
  split at h
  .rename_i R hR
   simp only[hR]
   split at h
   .rename_i hq
    rw[if_pos hq];obtain⟨cs,B,h2⟩:=jNO h;obtain⟨g,E⟩:=jO2 B;simp only[E,B];exact⟨_,rfl,h2⟩
   .cases h
  .cases h
 .cases h
theorem jWD {st:St}{t:TypeId}{x:Av}{ad:St->Av}{K:St->Prop}(h:jPr H T st t x ad K):∃st',jM3 T st t x ad=some st'/\K st':=by
 unfold jPr at h;unfold jM3
 split at h
 .cases h
 .rename_i hk
  rw[if_neg hk];obtain⟨⟨l,st1⟩,B,h⟩:=jUZ h;simp only[B]
  split at h
  .rename_i p hp
   simp only at hp;simp only[hp]
   split at h
   .rename_i hl
    rw[if_pos hl];exact jRQ h
   .cases h
  .cases h
theorem jVd {st:St}{z:Nat}{x:Av}{K:List (List C) × St->Prop}(h:jOX H T st z x K):∃q,jLk T st z x=some q/\K q:=by
 unfold jOX at h
 split at h
 .rename_i p
  split at h
  .exact jJ4 h
  .rename_i hl
   obtain⟨E,l,B,h⟩:=jMV h
   split at h
   .rename_i hz
    unfold jLk;simp only;rw[if_neg hl];simp only[jK4,B];rw[if_pos ⟨.inl hz,h.1⟩];exact⟨_,rfl,h.2⟩
   .cases h
 .split at h
  .rename_i hz
   unfold jLk;simp only[jK4];rw[if_pos ⟨.inl hz,h.1⟩];exact⟨_,rfl,h.2⟩
  .cases h
 .obtain⟨E,l,B,h⟩:=jMV h
  split at h
  .rename_i hz
   unfold jLk;simp only[jK4,B];rw[if_pos hz.1];simp only;rw[if_pos ⟨.inl hz.2,h.1⟩];exact⟨_,rfl,h.2⟩
  .cases h
 .exact jJ4 h
theorem jWI {st:St}{d:Nat}{ts tx:TypeId}{s:Av}{x:St->Av}{K:Av × St->Prop}(h:jPA H T st d ts tx s x K):∃r,jM6 T st d ts tx s x=some r/\K r:=by
 unfold jPA at h;unfold jM6
 split at h
 .rename_i hk
  rw[if_pos hk]
  split at h
  .rename_i ze hz
   simp only[hz]
   split at h
   .rename_i hl
    rw[if_pos hl]
    split at h
    .rename_i zz l st1 ht
     simp only[ht]
     split at h
     .rename_i hzz
      rw[if_pos (hzz.imp id fun h=>⟨h.1,List.isEmpty_iff.1 h.2⟩)];obtain⟨q,E,B,h2⟩:=jVd h;simp only[E];rw[if_pos B];exact jJ4 h2
     .cases h
    .cases h
   .cases h
  .cases h
 .cases h
theorem jWG {st:St}{d:Nat}{t:TypeId}{ln cp:Av}{K:Av × St->Prop}(h:jPv T st d t ln cp K):∃r,jM4 T st d t ln cp=some r/\K r:=by
 unfold jPv at h;unfold jM4
 split at h
 .rename_i hk
  rw[if_pos hk]
  split at h
  .rename_i ze hz
   split at h
   .rename_i hl
    obtain⟨a,ha,h⟩:=jNh h;obtain⟨b,E,B,h2⟩:=jNh h;rw[hz,ha,E];simp only;rw[if_pos ⟨hl,B.1,B.2⟩];exact jJ4 h2
   .cases h
  .cases h
 .cases h
def jQ2 (H:Hx) (T:Tb) (st:St) (ow:List C × Bool) (q:Operand × Nat × TypeId) (K:Arg->Prop):Prop:=match q.2.1 with
 |0=>if jKg (evo T st q.1) then K (.pl (nlz T q.2.2 (evo T st q.1))) else False
 |1=>K (.ow ow.1 ow.2)
 |2=>match evo T st q.1 with
  | .lo p=>gPK H (lkr T st.rt) p 1 fun l=>K (.rv l true)
  | .la p n=>gPK H (lkr T st.rt) p n fun l=>K (.rv l false)
  | .c x=>K (.rv [x] true)
  | .ag l=>K (.rv l false)
  |_=>False
 |3=>match evo T st q.1 with
  | .pa p=>if inM (lkr T st.rt) p then gPK H (lkr T st.rt) p (bxz T q.2.2) fun l=>K (.bp l) else False
  |_=>False
 |4=>match evo T st q.1 with
  | .pa p=>if inM (lkr T st.rt) p then gPK H (lkr T st.rt) p (bxz T q.2.2) fun l=>K (.br l) else False
  |_=>False
 |5=>match evo T st q.1 with
  | .pa ⟨_,o,[h]⟩=>K (.pl (.pa ⟨0,o,[h]⟩))
  | .pa p=>if inM (lkr T st.rt) p then gPK H (lkr T st.rt) p (bxz T q.2.2) fun l=>K (.br l) else False
  |_=>False
 |_=>False
def jQ1 (H:Hx) (T:Tb) (st:St) (ow:List C × Bool):Qs->(List Arg->Prop)->Prop
 |[],K=>K []
 |q ::qs,K=>jQ2 H T st ow q fun x=>jQ1 H T st ow qs fun l=>K (x ::l)
def preK (H:Hx) (T:Tb) (st:St) (qs:Qs) (K:List Arg->St->Option Pth->Prop):Prop:=li (take1 T st qs) fun t=>jQ1 H T t.2.2 (t.1,t.2.1) qs fun as=>li (bpP T t.2.2 qs) fun bp=>if Nat.ble qs.length 1000 && jLb t.2.2 && apO T t.2.2 bp qs then K as t.2.2 bp else False
def jUe (H:Hx) (T:Tb) (st:St) (bp:Option Pth) (bs:List (List C)) (K:St->Prop):Prop:=match bp,bs with
 |none,[]=>K st
 |some p,[b]=>jNL H T st p b K
 |_,_=>False
def jPk (H:Hx) (T:Tb) (n:Nat) (d:Option Nat) (st1:St) (bp:Option Pth) (rs:List Arg) (bs:List (List C)) (K:St->Prop):Prop:=if plR rs then jUe H T st1 bp bs fun st2=>li (jNR T n st2 d rs) K else False
theorem jZV {st:St}{ow:List C × Bool}{q:Operand × Nat × TypeId}{K:Arg->Prop}(h:jQ2 H T st ow q K):∃x,jKU T st ow q=some x/\K x:=by
 unfold jQ2 at h;unfold jKU
 split at h
 .rename_i e
  simp only[e]
  split at h
  .rename_i hp;rw[if_pos hp];exact⟨_,rfl,h⟩
  .cases h
 .rename_i e
  simp only[e];exact⟨_,rfl,h⟩
 .rename_i e
  simp only[e]
  split at h
  .rename_i e2
   obtain⟨l,B,h2⟩:=jL5 h;simp only[e2,B];exact⟨_,rfl,h2⟩
  .rename_i e2
   obtain⟨l,B,h2⟩:=jL5 h;simp only[e2,B];exact⟨_,rfl,h2⟩
  .rename_i e2;simp only[e2];exact⟨_,rfl,h⟩
  .rename_i e2;simp only[e2];exact⟨_,rfl,h⟩
  .cases h
 .rename_i e
  simp only[e]
  split at h
  .rename_i e2
   split at h
   .rename_i hi
    obtain⟨l,B,h2⟩:=jL5 h;simp only[e2,B];rw[if_pos hi];exact⟨_,rfl,h2⟩
   .cases h
  .cases h
 .rename_i e
  simp only[e]
  split at h
  .rename_i e2
   split at h
   .rename_i hi
    obtain⟨l,B,h2⟩:=jL5 h;simp only[e2,B];rw[if_pos hi];exact⟨_,rfl,h2⟩
   .cases h
  .cases h
 .rename_i e
  simp only[e]
  split at h
  .rename_i e2;simp only[e2];exact⟨_,rfl,h⟩
  .rename_i e3 e2
   split at h
   .rename_i hi
    obtain⟨l,B,h2⟩:=jL5 h;rw[e2]
    split
    .rename_i e4;cases e4;exact absurd rfl (e3 _ _ _)
    .rename_i e4;cases e4;rw[if_pos hi,B];exact⟨_,rfl,h2⟩
    .rename_i e4;exact absurd rfl (e4 _)
   .cases h
  .cases h
 .cases h
theorem jUg {st:St}{ow:List C × Bool}:∀{qs:Qs}{K:List Arg->Prop},jQ1 H T st ow qs K->∃l,jMb T st ow qs=some l/\K l
 |[],K,h=>⟨[],rfl,h⟩
 |q ::qs,K,h=>by
  obtain⟨x,B,h2⟩:=jZV h;obtain⟨l,E,G⟩:=jUg h2;exact⟨_,by simp only[jMb,B,E],G⟩
theorem jWq {st:St}{B:Qs}{K:List Arg->St->Option Pth->Prop}(h:preK H T st B K):∃as st1 bp,jMu T st B=some (as,st1,bp)/\K as st1 bp:=by
 obtain⟨⟨l,one,st1⟩,E,h⟩:=jJ4 h;obtain⟨as,h2,h⟩:=jUg h;obtain⟨bp,G,h⟩:=jJ4 h
 split at h
 .rename_i hc
  refine⟨as,st1,bp,?_,h⟩;unfold jMu;simp only[E,h2,G];rw[if_pos hc]
 .cases h
theorem jWv {d:Option Nat}{st1:St}{bp:Option Pth}{rs:List Arg}{bs:List (List C)}{K:St->Prop}(h:jPk H T n d st1 bp rs bs K):∃s',jMv T n d st1 bp rs bs=some s'/\K s':=by
 unfold jPk at h;unfold jMv
 split at h
 .rename_i hp
  rw[if_pos hp];unfold jUe at h
  split at h
  .obtain⟨s',h1,h2⟩:=jJ4 h
   exact⟨s',h1,h2⟩
  .obtain⟨s2,h1,h2⟩:=jRQ h
   obtain⟨s',B,E⟩:=jJ4 h2;simp only[jUd,h1];exact⟨s',B,E⟩
  .cases h
 .cases h
theorem jOU {st:St}{o:Oper}{d:Nat}(hd:o.dst=some d) (B:isW o.op=false) (hn:d<n):jKG T n fz st o=jMt st d (opR T (evo T st) (lkr T st.rt) o.op):=by
 unfold jKG;simp only[hd];rw[if_pos hn]
 split <;> first|rfl|(rename_i h;rw[h]at B;cases B;done)|(rename_i s t x h;rw[h]at B ⊢;rw[if_neg (by simpa[isW] using B)])
theorem jWH {st:St}{B:TypeId}{x y:Av}{K:Av × St->Prop}(h:jPw T st B x y K):∃r,jM5 T st B x y=some r/\K r:=by
 unfold jPw at h;unfold jM5
 split at h
 .rename_i p
  split at h
  .rename_i hb
   simp only;rw[if_pos hb]
   split at h
   .rename_i R hR
    simp only[hR]
    split at h
    .rename_i ho
     rw[if_pos ho]
     split at h
     .rename_i zo l0 hcell
      simp only[hcell];obtain⟨⟨G,l⟩,E,h⟩:=jJ4 h;simp only[E]
      split at h
      .rename_i hz
       obtain⟨⟨q1,q2,q3⟩,h⟩:=h;rw[if_pos ⟨hz.1,hz.2,q1,q2,q3⟩];exact⟨_,rfl,h⟩
      .cases h
     .cases h
    .cases h
   .cases h
  .cases h
 .cases h
theorem jVc {st:St}{o:Oper}{K:St->Prop}(h:jOV H T n fz st o K):∃st',jKG T n fz st o=some st'/\K st':=by
 unfold jOV at h
 split at h
 .rename_i hd
  split at h
  .rename_i t a x hop
   unfold jKG;simp only[hd,hop];exact jWD h
  .cases h
 .rename_i d hd
  split at h
  .split at h
   .rename_i t l c hop
    split at h
    .rename_i hn
     obtain⟨r,B,h2⟩:=jWG h;unfold jKG;simp only[hd,hop];rw[if_pos hn,B];exact⟨_,rfl,h2⟩
    .cases h
   .rename_i x y tx ty hop
    split at h
    .rename_i hn
     obtain⟨r,B,h2⟩:=jWH h;unfold jKG;simp only[hd,hop];rw[if_pos hn,B];exact⟨_,rfl,h2⟩
    .cases h
   .rename_i s x ts tx hop
    split at h
    .rename_i hn
     split at h
     .rename_i h1'
      obtain⟨r,B,h2⟩:=jWI h;unfold jKG;simp only[hd,hop];rw[if_pos hn,if_pos h1',B];exact⟨_,rfl,h2⟩
     .cases h
    .cases h
   .exact jJ4 h
  .rename_i hw
   split at h
   .rename_i hn
    obtain⟨v,B,h2⟩:=jWE h;rw[jOU hd (by simpa using hw) hn,B];exact⟨_,rfl,h2⟩
   .cases h
end
variable {T:Tb}{w w':World}{A A':Nat->Prop}
theorem RC.frz {z:Nat}{l:List (List C)}{v:Value}{F:List Nat}(h:RC w A (.r true z l) v F) (hp:pln l):RC w (fun k=>A k\/k ∈ F) (.r false z l) v []:=by
 cases h with
 |rn o z=>exact .rn false z
 |@ro g l F z cap arr ty fz h1 h2 h3 h4 h5 h6=>
  have e:=h6.pl hp;subst e;refine .rf (off:=0) (.inr (List.mem_cons_self ..)) h1 h3 ?_ h5 ?_
  .rw[Nat.zero_add];exact Nat.le_trans (Nat.mul_le_mul_right _ h5) h4
  .rw[List.drop_zero]
   exact h6.st (fun k hk=>⟨.inl hk,rfl⟩) fun _ _=>rfl
def jME (r o:Nat):Av->Bool
 | .lo p=>p.r == r && p.o == o && p.p.isEmpty
 |_=>false
def jOl (r o:Nat) (x:C) (l:List (Nat × Av)):List (Nat × Av):=l.map fun q=>(q.1,if jME r o q.2 then .c x else jK9 r o 1 q.2)
def frz (T:Tb) (st:St) (r o:Nat) (K:St->Prop):Prop:=if Nat.blt r 1000000 then match lkr T st.rt r with
 |some R=>if own R then match R.cs[o]? with
  |some (.r true z l)=>pln l/\K ⟨jOl r o (.r false z l) st.tm,upR st.rt r ⟨R.kd,R.cs.set o (.r false z l)⟩⟩
  |some (.r false z l)=>K st
  |_=>False
  else False
 |none=>False else False
theorem jN3 (f:Av->Av) (hf:f .u= .u):∀(l:List (Nat × Av)) (t:Nat),lkt (l.map fun q=>(q.1,f q.2)) t=f (lkt l t)
 |[],t=>by simp[lkt,hf]
 |(k,x) ::l,t=>by
  simp only[List.map_cons,lkt]
  split
  .rfl
  .exact jN3 f hf l t
theorem jYC {st:St}{r o:Nat}{K:St->Prop}(h:frz T st r o K):∃st',Wk T st st'/\K st':=by
 unfold frz at h
 split at h
 rotate_left
 .cases h
 rename_i h1
 have h1:r<1000000:=Nat.le_of_ble_eq_true h1
 split at h
 rotate_left
 .cases h
 rename_i R hR
 split at h
 rotate_left
 .cases h
 rename_i Z
 split at h
 rotate_left
 .exact⟨st,Wk.refl st,h⟩
 .cases h
 rename_i z l hc
 obtain⟨hp,hK⟩:=h;refine⟨_,fun c hc' hst hX=>?_,hK⟩;subst hst;have V:=hc'.sx.sr;have G:=V.rts r R hR;have hN:=V.nd r R hR;have h8:=V.fa r R hR Z;have k5:=(List.getElem?_eq_some_iff.1 hc).1
 have h9:R.kd≠9:=by
  intro e;unfold own at Z;rw[e]at Z;simp at Z
 have k8:∃v E Fs B,(c.mo r).vs[o]? =some v/\c.fp r=E ++Fs ++B/\RC c.w c.A (.r true z l) v Fs/\jJM c.w (fun k=>c.A k\/k ∈ Fs) ⟨R.kd,R.cs.set o (.r false z l)⟩ (c.mo r) (E ++B):=by
  have h6:R.cs.set o (.r false z l)=R.cs.take o ++ .r false z l ::R.cs.drop (o+1):=jOQ k5
  have O:∀{vs:List Value}{F:List Nat},RL c.w c.A R.cs vs F->∃v E Fs B,vs[o]? =some v/\F=E ++Fs ++B/\RC c.w c.A (.r true z l) v Fs/\RL c.w (fun k=>c.A k\/k ∈ Fs) (R.cs.set o (.r false z l)) vs (E ++B):=fun {vs F} hrl=>by
   obtain⟨v,E,Fs,B,M,P,e3,e4,e5⟩:=hrl.at hc;refine⟨v,E,Fs,B,M,P,e3,?_⟩;have J:=(List.getElem?_eq_some_iff.1 M).1
   have ev:vs=vs.take o ++v ::vs.drop (o+1):=by
    rw[<-(List.getElem?_eq_some_iff.1 M).2,<-List.drop_eq_getElem_cons J,List.take_append_drop]
   rw[h6];have up:∀{cs vs F},RL c.w c.A cs vs F->RL c.w (fun k=>c.A k\/k ∈ Fs) cs vs F:=fun h=>h.st (fun k hk=>⟨.inl hk,rfl⟩) fun _ _=>rfl;have r2:RL c.w (fun k=>c.A k\/k ∈ Fs) (.r false z l ::R.cs.drop (o+1)) (v ::vs.drop (o+1)) ([] ++B):=.cons (e3.frz hp) (up e5);have:=(up e4).app r2;rw[<-ev]at this;exact this
  unfold jJM at G ⊢;rw[if_neg h9]at G;simp only[if_neg h9]
  by_cases J:isV R=true
  .rw[if_pos J]at G
   have h3:isV ⟨R.kd,R.cs.set o (.r false z l)⟩=true:=J;simp only[if_pos h3];exact O G
  .rw[if_neg J]at G
   have h3:¬isV ⟨R.kd,R.cs.set o (.r false z l)⟩=true:=J;simp only[if_neg h3];obtain⟨F',arr,M,hL,P,e3,e4,e5⟩:=G;obtain⟨v,E,Fs,B,k1,k2,k3,k4⟩:=O hL.rl;refine⟨v,(c.mo r).k ::E,Fs,B,by rw[P];exact k1,by rw[M,k2];rfl,k3,E ++B,arr,rfl,⟨hL.blk,hL.okz,by simpa using hL.le,by simpa using k4⟩,by simpa using P,e3,by simpa using e4,by simpa using e5⟩
 obtain⟨v,E,Fs,B,k1,k2,k3,k4⟩:=k8;rw[k2]at hN
 have h7:(E ++B).Nodup:=by
  refine List.Sublist.nodup ?_ hN;exact List.Sublist.append (List.sublist_append_left _ _) (List.Sublist.refl _)
 have h5:∀g ∈ E ++B,g ∉ Fs:=fun g hg hgs=>by
  simp only[List.nodup_append,List.mem_append]at hN hg
  grind
 have h4:∀g ∈ Fs,g ∈ c.fp r:=fun g hg=>by rw[k2];simp[hg]
 have Y:∀g ∈ E ++B,g ∈ c.fp r:=fun g hg=>by
  rw[k2];simp only[List.mem_append]at hg ⊢;rcases hg with h|h <;> simp[h]
 obtain⟨q1,q2⟩:=Ok.turn (n:=1) (o:=o) hc' hR Z (R':=⟨R.kd,R.cs.set o (.r false z l)⟩) rfl (by simp) (m':=c.mo r) (w':=c.w) (A':=fun k=>c.A k\/k ∈ Fs) (X':=[]) (F':=E ++B) rfl rfl (fun i _=>rfl) h1 (fun _ _ _ _=>rfl) (Below.refl _ _) (fun k hk=>.inl hk) (fun k hk=>⟨by
  rcases hk with h|h
  .exact .inl h
  .exact .inr (.inl (h4 k h)),by
  rcases hk with h|h
  .exact hc'.al k h
  .exact jKa V (h4 k h)⟩) k4 h7 (fun g hg h=>by
  rcases h with h|h
  .exact h8 g (Y g hg) h
  .exact h5 g hg h) (fun g hg=>.inl (Y g hg)) List.nodup_nil (fun g hg=>by cases hg) (fun g hg=>by cases hg)
 refine⟨⟨c.w,fun k=>c.A k\/k ∈ Fs,⟨jOl r o (.r false z l) c.st.tm,upR c.st.rt r ⟨R.kd,R.cs.set o (.r false z l)⟩⟩,upd c.mo r (c.mo r),upd c.fp r (E ++B),c.a,[]⟩,⟨⟨⟨q1.sx.sr.rts,q1.sx.sr.nd,q1.sx.sr.fa,q1.sx.sr.dj,fun t=>?_,q1.sx.sr.nf,q1.sx.sr.gl⟩,List.nodup_nil,fun g hg=>(by cases hg),fun g hg=>(by cases hg),fun g hg=>(by cases hg)⟩,q1.al⟩,⟨q2.low,q2.kp,q2.ow,q2.fa,q2.fb,q2.pr,q2.ro⟩,rfl,rfl,rfl,rfl⟩;show TV _ _ _ _ (lkt (jOl r o (.r false z l) c.st.tm) t) (c.a t);have M:lkt (jOl r o (.r false z l) c.st.tm) t=if jME r o (lkt c.st.tm t) then .c (.r false z l) else jK9 r o 1 (lkt c.st.tm t):=jN3 (fun y=>if jME r o y then .c (.r false z l) else jK9 r o 1 y) (by rfl) c.st.tm t;rw[M]
 split
 .rename_i hlo
  have h0:=V.tms t;unfold jME at hlo
  split at hlo
  .rename_i p hp'
   rw[hp']at h0;simp only[Bool.and_eq_true,beq_iff_eq,List.isEmpty_iff]at hlo;obtain⟨⟨a1,a2⟩,a3⟩:=hlo;have h0:vls c.w (c.mo p.r) p 1=some [c.a t]:=h0 c.w fun _ _=>rfl;unfold vls at h0;rw[a3,a1,a2]at h0;simp only at h0
   split at h0
   .rename_i hle
    have J:=(List.getElem?_eq_some_iff.1 k1)
    obtain⟨k6,k7⟩:=J;rw[List.drop_eq_getElem_cons k6,k7]at h0;simp only[List.take_succ_cons,List.take_zero,Option.some.injEq,List.cons.injEq,and_true]at h0;show RC _ _ _ _ _;rw[<-h0];exact k3.frz hp
   .cases h0
  .cases hlo
 .have:=q1.sx.sr.tms t
  have P:lkt (jKt r o 1 c.st.tm) t=jK9 r o 1 (lkt c.st.tm t):=jN3 (jK9 r o 1) (by rfl) c.st.tm t;have this:TV _ _ _ _ (lkt (jKt r o 1 c.st.tm) t) (c.a t):=this;rw[P]at this;exact this
variable {T:Tb}{w w':World}{A A':Nat->Prop}
def rnN (r r' k:Nat):Nat:=if k=r then r' else k
def rnP (r r':Nat) (p:Pth):Pth:=⟨rnN r r' p.r,p.o,p.p⟩
def rn0 (r r':Nat):Av->Av
 | .pa p=>.pa (rnP r r' p)
 | .lo p=>.lo (rnP r r' p)
 | .la p n=>.la (rnP r r' p) n
 | .sb p z a b=>.sb (rnP r r' p) z a b
 |x=>x
def rnA (r r':Nat):Av->Av
 | .tp l=>.tp (l.map (rn0 r r'))
 |x=>rn0 r r' x
def ren (T:Tb) (st:St) (r r':Nat) (K:St->Prop):Prop:=if Nat.blt r 1000000 && Nat.blt r' 1000000 then match lkr T st.rt r,lkr T st.rt r' with
 |some R,none=>if own R && !(R.kd == 0) && st.tm.all (fun q=>!(nms q.2 ++sof q.2).contains r') then K ⟨st.tm.map fun q=>(q.1,rnA r r' q.2),st.rt.map fun q=>(rnN r r' q.1,q.2)⟩ else False
 |_,_=>False else False
theorem jSU {r r':Nat}(E:r<1000000) (B:r'<1000000):∀{l:List (Nat × Rt)},lkr T l r'=none->∀k,lkr T (l.map fun q=>(rnN r r' q.1,q.2)) k=if k=r' then lkr T l r else if k=r then none else lkr T l k
 |[],h,k=>by
  simp only[List.map_nil,lkr];have G:=T.gl0 r E
  by_cases a:k=r'
  .subst a;rw[if_pos rfl,T.gl0 _ B,G]
  .rw[if_neg a]
   by_cases b:k=r
   .subst b;rw[if_pos rfl,G]
   .rw[if_neg b]
 |(j,R) ::l,h,k=>by
  simp only[lkr]at h
  split at h
  .cases h
  .rename_i hj
   have ih:=jSU E B h k;simp only[List.map_cons,lkr];rw[show rnN r r' j=(if j=r then r' else j)from rfl]
   by_cases e:j=r
   .subst e
    rw[if_pos rfl]
    by_cases a:k=r'
    .subst a;rw[if_pos rfl,if_pos rfl,if_pos rfl]
    .rw[if_neg (fun e=>a e.symm),ih,if_neg a,if_neg a]
     by_cases b:k=j
     .subst b;rw[if_pos rfl,if_pos rfl]
     .rw[if_neg b,if_neg b,if_neg (fun e=>b e.symm)]
   .rw[if_neg e,if_neg e]
    by_cases a:k=r'
    .subst a
     rw[if_neg hj,ih,if_pos rfl,if_pos rfl]
    .rw[if_neg a]
     by_cases c:j=k
     .subst c
      rw[if_pos rfl,if_neg e,if_pos rfl]
     .rw[if_neg c,ih,if_neg a,if_neg c]
theorem TV0.ren {mo mo':Nat->Mo}{fp fp':Nat->List Nat}{r r':Nat}(hm:∀k,k≠r'->mo' (rnN r r' k)=mo k/\fp' (rnN r r' k)=fp k) {x:Av}{v:Value}(hx:∀k ∈ nm0 x,k≠r') (hs:∀k ∈ so0 x,k≠r') (h:TV0 w A mo fp x v):TV0 w A mo' fp' (rn0 r r' x) v:=by
 have G:∀p:Pth,p.r≠r'->mo' (rnP r r' p).r=mo p.r/\fp' (rnP r r' p).r=fp p.r:=fun p hp=>hm p.r hp
 cases x with
 |pa p=>
  have hp:p.r≠r':=by
   by_cases J:p.p=[]
   .exact hs p.r (by simp[so0,J])
   .exact hx p.r (by simp[nm0,J])
  obtain⟨B,E⟩:=G p hp;show ∃g a,(∀w',Agr (fp' (rnP r r' p).r) w w'->ad w' (mo' (rnP r r' p).r) p.o p.p=some (g,a))/\_;rw[B,E];exact h
 |lo p=>
  obtain⟨B,E⟩:=G p (hx p.r (by simp[nm0]));show ∀w',Agr (fp' (rnP r r' p).r) w w'->vls w' (mo' (rnP r r' p).r) (rnP r r' p) 1=some [v];rw[B,E];exact h
 |la p n=>
  obtain⟨B,E⟩:=G p (hx p.r (by simp[nm0]));show ∃arr:Array Value,v= .agg arr/\arr.size=n/\∀w',Agr (fp' (rnP r r' p).r) w w'->vls w' (mo' (rnP r r' p).r) (rnP r r' p) n=some arr.toList;rw[B,E];exact h
 |sb p z a b=>
  obtain⟨B,E⟩:=G p (hx p.r (by simp[nm0]));show ∃g len cap,(∀w',Agr (fp' (rnP r r' p).r) w w'->vls w' (mo' (rnP r r' p).r) (rnP r r' p) 1=some [.slice (some ⟨g,0,none⟩) len cap])/\_;rw[B,E];exact h
 |_=>exact h
theorem TV.ren {mo mo':Nat->Mo}{fp fp':Nat->List Nat}{r r':Nat}(hm:∀k,k≠r'->mo' (rnN r r' k)=mo k/\fp' (rnN r r' k)=fp k) {x:Av}{v:Value}(hx:∀k ∈ nms x ++sof x,k≠r') (h:TV w A mo fp x v):TV w A mo' fp' (rnA r r' x) v:=by
 have one:∀{y:Av}{u:Value},(∀k ∈ nm0 y,k≠r')->(∀k ∈ so0 y,k≠r')->TV0 w A mo fp y u->TV0 w A mo' fp' (rn0 r r' y) u:=fun E h2 h3=>TV0.ren hm E h2 h3
 cases x with
 |tp l=>
  obtain⟨arr,J,M,O⟩:=h;refine⟨arr,J,by simp[M],fun j y u hj hu=>?_⟩;rw[List.getElem?_map]at hj;obtain⟨G,h0,E⟩:=Option.map_eq_some_iff.1 hj;rw[<-E];have B:=List.mem_of_getElem? h0;refine one (fun k hk=>hx k ?_) (fun k hk=>hx k ?_) (O j G u h0 hu)
  .exact List.mem_append_left _ (List.mem_flatMap.2 ⟨G,B,hk⟩)
  .exact List.mem_append_right _ (List.mem_flatMap.2 ⟨G,B,hk⟩)
 |c y=>exact TV0.ren (w:=w) (A:=A) (x:=.c y) hm (fun k hk=>hx k (List.mem_append_left _ hk)) (fun k hk=>hx k (List.mem_append_right _ hk)) h
 |ag y=>exact TV0.ren (w:=w) (A:=A) (x:=.ag y) hm (fun k hk=>hx k (List.mem_append_left _ hk)) (fun k hk=>hx k (List.mem_append_right _ hk)) h
 |nl=>exact TV0.ren (w:=w) (A:=A) (x:=.nl) hm (fun k hk=>hx k (List.mem_append_left _ hk)) (fun k hk=>hx k (List.mem_append_right _ hk)) h
 |pa p=>exact TV0.ren (w:=w) (A:=A) (x:=.pa p) hm (fun k hk=>hx k (List.mem_append_left _ hk)) (fun k hk=>hx k (List.mem_append_right _ hk)) h
 |lo p=>exact TV0.ren (w:=w) (A:=A) (x:=.lo p) hm (fun k hk=>hx k (List.mem_append_left _ hk)) (fun k hk=>hx k (List.mem_append_right _ hk)) h
 |la p m=>exact TV0.ren (w:=w) (A:=A) (x:=.la p m) hm (fun k hk=>hx k (List.mem_append_left _ hk)) (fun k hk=>hx k (List.mem_append_right _ hk)) h
 |sb p z q s=>exact TV0.ren (w:=w) (A:=A) (x:=.sb p z q s) hm (fun k hk=>hx k (List.mem_append_left _ hk)) (fun k hk=>hx k (List.mem_append_right _ hk)) h
 |ev l o=>exact TV0.ren (w:=w) (A:=A) (x:=.ev l o) hm (fun k hk=>hx k (List.mem_append_left _ hk)) (fun k hk=>hx k (List.mem_append_right _ hk)) h
 |u=>exact TV0.ren (w:=w) (A:=A) (v:=v) (x:=.u) hm (fun k hk=>hx k (List.mem_append_left _ hk)) (fun k hk=>hx k (List.mem_append_right _ hk)) h
theorem jV3 {st:St}{r r':Nat}{K:St->Prop}(h:ren T st r r' K):∃st',Wk T st st'/\K st':=by
 unfold ren at h
 split at h
 rotate_left
 .cases h
 rename_i O
 rw[Bool.and_eq_true]at O;have hr:r<1000000:=Nat.le_of_ble_eq_true O.1;have Y:r'<1000000:=Nat.le_of_ble_eq_true O.2
 split at h
 rotate_left
 .cases h
 rename_i R hR hN
 split at h
 rotate_left
 .cases h
 rename_i P
 simp only[Bool.and_eq_true,Bool.not_eq_true',beq_eq_false_iff_ne]at P;obtain⟨⟨ho,h0⟩,ht⟩:=P;have V:r≠r':=fun e=>by rw[e,hN]at hR;cases hR
 refine⟨_,fun c hc' hst hX=>?_,h⟩;subst hst;have E:=hc'.sx.sr;have L:=fun k=>jSU (T:=T) hr Y hN k;have Z:c.fp r'=[]:=E.nf r' hN;have M:∀k,upd c.mo r' (c.mo r) k=if k=r' then c.mo r else c.mo k:=fun k=>rfl;have G:∀k,upd (upd c.fp r []) r' (c.fp r) k=if k=r' then c.fp r else if k=r then[] else c.fp k:=fun k=>rfl
 have inv:∀k S,lkr T (c.st.rt.map fun q=>(rnN r r' q.1,q.2)) k=some S->∃k0,lkr T c.st.rt k0=some S/\upd c.mo r' (c.mo r) k=c.mo k0/\upd (upd c.fp r []) r' (c.fp r) k=c.fp k0/\k0≠r'/\rnN r r' k0=k:=fun k S hk=>by
  rw[L]at hk
  by_cases a:k=r'
  .rw[if_pos a]at hk
   exact⟨r,hk,by rw[M,if_pos a],by rw[G,if_pos a],V,by rw[rnN,if_pos rfl,a]⟩
  .rw[if_neg a]at hk
   by_cases b:k=r
   .rw[if_pos b]at hk;cases hk
   .rw[if_neg b]at hk
    exact⟨k,hk,by rw[M,if_neg a],by rw[G,if_neg a,if_neg b],a,by rw[rnN,if_neg b]⟩
 refine⟨⟨c.w,c.A,⟨c.st.tm.map fun q=>(q.1,rnA r r' q.2),c.st.rt.map fun q=>(rnN r r' q.1,q.2)⟩,upd c.mo r' (c.mo r),upd (upd c.fp r []) r' (c.fp r),c.a,[]⟩,⟨⟨⟨fun k S hk=>?_,fun k S hk=>?_,fun k S hk hoS=>?_,fun k k' S S' hkk hk hk' hoS g B=>?_,fun t=>?_,fun k hk=>?_,fun g cs B=>?_⟩,List.nodup_nil,fun g B=>(by cases B),fun g B=>(by cases B),fun g B=>(by cases B)⟩,hc'.al⟩,⟨Below.refl _ _,fun _ _ _=>rfl,fun g B=>.inl ?_,fun _ h=>h,fun _ h=>.inl h,fun k S h1 h2=>?_,fun k S h1 h2 h3=>?_⟩,rfl,rfl,rfl,rfl⟩
 .obtain⟨k0,a1,a2,a3,_,_⟩:=inv k S hk
  show jJM c.w c.A S (upd c.mo r' (c.mo r) k) (upd (upd c.fp r []) r' (c.fp r) k);rw[a2,a3];exact E.rts k0 S a1
 .obtain⟨k0,a1,a2,a3,_,_⟩:=inv k S hk
  show(upd (upd c.fp r []) r' (c.fp r) k).Nodup;rw[a3];exact E.nd k0 S a1
 .obtain⟨k0,a1,a2,a3,_,_⟩:=inv k S hk
  show ∀g ∈ upd (upd c.fp r []) r' (c.fp r) k,¬c.A g;rw[a3];exact E.fa k0 S a1 hoS
 .obtain⟨k0,a1,a2,a3,a4,a5⟩:=inv k S hk
  obtain⟨k1,b1,b2,b3,b4,b5⟩:=inv k' S' hk';have B:g ∈ upd (upd c.fp r []) r' (c.fp r) k:=B;show g ∉ upd (upd c.fp r []) r' (c.fp r) k';rw[a3]at B;rw[b3];exact E.dj k0 k1 S S' (fun e=>hkk (by rw[<-a5,<-b5,e])) a1 b1 hoS g B
 .show TV c.w c.A _ _ (lkt (c.st.tm.map fun q=>(q.1,rnA r r' q.2)) t) (c.a t)
  rw[jN3 (rnA r r') rfl c.st.tm t];refine TV.ren (mo:=c.mo) (fp:=c.fp) (fun k hk=>?_) (fun k hk e=>?_) (E.tms t)
  .show upd c.mo r' (c.mo r) (rnN r r' k)=c.mo k/\upd (upd c.fp r []) r' (c.fp r) (rnN r r' k)=c.fp k
   by_cases b:k=r
   .rw[rnN,if_pos b,M,G,if_pos rfl,if_pos rfl,b];exact⟨rfl,rfl⟩
   .rw[rnN,if_neg b,M,G,if_neg hk,if_neg hk,if_neg b];exact⟨rfl,rfl⟩
  .subst e
   rcases jNc (l:=c.st.tm) (t:=t)with h|h
   .rw[h]at hk;cases hk
   .have:=List.all_eq_true.1 ht _ h
    simp only[Bool.not_eq_true',List.contains_eq_mem,decide_eq_false_iff_not]at this;exact this hk
 .have hk:lkr T (c.st.rt.map fun q=>(rnN r r' q.1,q.2)) k=none:=hk
  show upd (upd c.fp r []) r' (c.fp r) k=[];rw[L]at hk;rw[G]
  by_cases a:k=r'
  .rw[if_pos a]at hk;rw[hR]at hk;cases hk
  .rw[if_neg a]at hk ⊢
   by_cases b:k=r
   .rw[if_pos b]
   .rw[if_neg b]at hk ⊢
    exact E.nf k hk
 .show(upd c.mo r' (c.mo r) (1000000+g)).k=g/\(upd c.mo r' (c.mo r) (1000000+g)).o=0/\(upd c.mo r' (c.mo r) (1000000+g)).a0.size=cs.length
  have:1000000+g≠r':=by omega
  rw[M,if_neg this];exact E.gl g cs B
 .rcases B with⟨k,S,hk,hoS,B⟩|B
  .obtain⟨k0,a1,a2,a3,_,_⟩:=inv k S hk
   have B:g ∈ upd (upd c.fp r []) r' (c.fp r) k:=B;rw[a3]at B;exact .inl ⟨k0,S,a1,hoS,B⟩
  .cases B
 .have hkr:k≠r:=fun e=>by rw[e,hR]at h1;cases h1;exact h0 h2
  have J:k≠r':=fun e=>by rw[e,hN]at h1;cases h1
  refine⟨S,?_,h2,rfl,?_⟩
  .show lkr T (c.st.rt.map fun q=>(rnN r r' q.1,q.2)) k=some S
   rw[L,if_neg J,if_neg hkr];exact h1
  .show base (upd c.mo r' (c.mo r) k)=_
   rw[M,if_neg J]
 .have h1:lkr T (c.st.rt.map fun q=>(rnN r r' q.1,q.2)) k=some S:=h1
  rw[L]at h1
  by_cases a:k=r'
  .rw[if_pos a,hR]at h1;cases h1;rw[ho]at h2;cases h2
  .rw[if_neg a]at h1
   by_cases b:k=r
   .rw[if_pos b]at h1;cases h1
   .rw[if_neg b]at h1
    exact⟨h1,by show upd c.mo r' (c.mo r) k=_;rw[M,if_neg a],by show upd (upd c.fp r []) r' (c.fp r) k=_;rw[G,if_neg a,if_neg b]⟩
def opn (T:Tb) (st:St) (r d:Nat) (K:St->Prop):Prop:=if jME r 0 (lkt st.tm d) then match takeP T st ⟨r,0,[]⟩ 1 with
 |some ([.bx l],st1)=>if okD T st1 r then K ⟨upT (jKs r st1.tm) d (.pa ⟨r,0,[]⟩),upR st1.rt r ⟨1,l⟩⟩ else False
 |_=>False else False
theorem jWA {T:Tb}{st:St}{r d:Nat}{K:St->Prop}(h:opn T st r d K):∃st',Wk T st st'/\K st':=by
 unfold opn at h
 split at h
 .rename_i hl
  split at h
  .rename_i l st1 ht
   split at h
   .rename_i hd
    refine⟨_,fun c hc hst hX=>?_,h⟩;subst hst;obtain⟨mo',fp',Fs,us,J,Y,k2,k3,k4⟩:=hc.takeP ht;obtain⟨u,e,P⟩:=RL.one1 k2;subst e;have hx:=hc.sx.sr.tms d
    have hp:lkt c.st.tm d= .lo ⟨r,0,[]⟩:=by
     unfold jME at hl
     split at hl
     .rename_i p hp
      rw[Bool.and_eq_true,Bool.and_eq_true,List.isEmpty_iff]at hl;obtain⟨⟨E,h2⟩,O⟩:=hl;have E:p.r=r:=by simpa using E
      have h2:p.o=0:=by simpa using h2
      rw[hp];obtain⟨a,b,q⟩:=p;simp only at E h2 O;rw[E,h2,O]
     .cases hl
    rw[hp]at hx;have G:=hx c.w (jJQ _ _);rw[k4]at G;have G:u=c.a d:=by cases G;rfl
    obtain⟨V,ho⟩:=jM7 hd
    cases P with
    |@bx k _ F arr ty fz b1 b2 b3=>
     have hN:=J.sx.nd;rw[hX,List.append_nil]at hN;have B:∀g ∈ k ::F,g ∈ (k ::F) ++c.X:=fun g hg=>List.mem_append_left _ hg;have M:=b3.len
     obtain⟨Z,d2⟩:=J.lay (w':=c.w) (A':=c.A) (X':=[]) (r:=r) (R':=⟨1,l⟩) (m':=⟨k,0,arr.toList,arr,ty,fz⟩) (F':=k ::F) ho V rfl
      (fun k hk _ _=>rfl) (Below.refl _ _) (fun k hk=>hk) (fun k hk=>⟨.inl hk,J.al k hk⟩)
      (by
       unfold jJM;rw[if_neg (by simp),if_neg (by simp[isV])];simp only[Array.length_toList]at M
       refine⟨F,arr,rfl,⟨b1,fun _=>b2,by simp only;omega,by
        simp only[List.drop_zero]
        rw[List.take_of_length_le (by simp;omega)];exact b3⟩,by simp only[List.drop_zero];rw[List.take_of_length_le (by simp;omega)],rfl,fun _ _=>rfl,fun _=>⟨rfl,by simp only;omega⟩⟩)
      hN (fun _ g hg=>J.sx.na g (B g hg)) (fun g hg=>.inr (.inl (B g hg))) List.nodup_nil (fun g hg=>by cases hg) (fun g hg=>by cases hg)
     obtain⟨p1,p2⟩:=Z.put (d:=d) (x:=.pa ⟨r,0,[]⟩) (v:=c.a d) ⟨k,0,fun w' _=>by
      show ad w' (upd mo' r _ r) 0 []=_
      rw[jqp];rfl,G.symm⟩
     have ea:upd c.a d (c.a d)=c.a:=by
      funext t
      unfold upd
      split
      .rename_i e;rw[e]
      .rfl
     refine⟨_,p1,Y.trans (d2.trans p2),rfl,rfl,ea,rfl⟩
   .cases h
  .cases h
 .cases h
structure Ct where
 α:Type
 rs:α->List Arg
 bs:α->List (List C)
 po:α->Prop
 pr:Prop
 fi:List Arg->List (List C)->Prop
 hf:∀xs ys,fi xs ys->∃x,xs=rs x/\ys=bs x/\po x
structure Pz (β:Type) where
 α:Type
 f:α->β
 un:β->Option α
 ok:∀b x,un b=some x->b=f x
def mkc (R:Pz (List Arg)) (B:Pz (List (List C))) (po:R.α->B.α->Prop) (pr:Prop):Ct where
 α:=R.α × B.α
 rs:=fun x=>R.f x.1
 bs:=fun x=>B.f x.2
 po:=fun x=>po x.1 x.2
 pr:=pr
 fi:=fun xs ys=>match R.un xs with
  |some a=>match B.un ys with
   |some b=>po a b
   |none=>False
  |none=>False
 hf:=fun xs ys h=>by
  split at h
  .rename_i a ha
   split at h
   .rename_i b hb
    exact⟨(a,b),R.ok _ _ ha,B.ok _ _ hb,h⟩
   .cases h
  .cases h
def told (rs:List Arg) (bs:List (List C)) (p:Prop):Ct:=⟨Unit,fun _=>rs,fun _=>bs,fun _=>True,p,fun xs ys=>xs=rs/\ys=bs,fun _ _ h=>⟨(),h.1,h.2,trivial⟩⟩
abbrev Cts:=Nat->List Arg->Option Ct
def Tot (T:Tb) (c:Ct) (f:Nat) (as:List Arg):Prop:=∃x,c.po x/\Does T f as (c.rs x) (c.bs x)
def Good (T:Tb) (ct:Cts):Prop:=∀f as c,ct f as=some c->c.pr->Tot T c f as
def fnC:Op->Option (Nat × Array Operand × Array TypeId)
 | .call ⟨.value (.func f),xs,ats⟩=>some (f,xs,ats)
 |_=>none
structure Rd (β:Type) where
 α:Type
 f:α->β
 un:β->(α->Prop)->Prop
 ok:∀b K,un b K->∃a,b=f a/\K a
structure Rl (β:Type) where
 ks:List Nat
 R:Rd (List (Nat × β))
def Rl.nil {β:Type}:Rl β:=⟨[],Unit,fun _=>[],fun b K=>match b with
 |[]=>K ()
 |_=>False,fun b K h=>by
  split at h
  .exact⟨(),rfl,h⟩
  .cases h⟩
def Rl.cons {β:Type}(k:Nat) (r:Rd β) (l:Rl β):Rl β:=⟨k ::l.ks,r.α × l.R.α,fun a=>(k,r.f a.1) ::l.R.f a.2,fun b K=>match b with
 |(k',x) ::b=>if k'=k then r.un x fun a=>l.R.un b fun a'=>K (a,a') else False
 |[]=>False,fun b K h=>by
  split at h
  .split at h
   .rename_i hk
    obtain⟨a,e,h⟩:=r.ok _ _ h;obtain⟨a',e',h⟩:=l.R.ok _ _ h;exact⟨(a,a'),by rw[e,e',hk],h⟩
   .cases h
  .cases h⟩
def ofP {β:Type}(p:Pz β):Rd β:=⟨p.α,p.f,fun b K=>li (p.un b) K,fun b K h=>by
 obtain⟨a,e,h⟩:=jJ4 h
 exact⟨a,p.ok _ _ e,h⟩⟩
def stR (t:Rl Av) (r:Rl Rt):Rd St:=⟨t.R.α × r.R.α,fun a=>⟨t.R.f a.1,r.R.f a.2⟩,fun s K=>t.R.un s.tm fun a=>r.R.un s.rt fun b=>K (a,b),fun s K h=>by
 obtain⟨a,e,h⟩:=t.R.ok _ _ h;obtain⟨b,e',h⟩:=r.R.ok _ _ h
 exact⟨(a,b),by cases s;rw[<-e,<-e'],h⟩⟩
inductive Lp where
 |un (k:Nat)
 |iv (t:Rl Av) (r:Rl Rt) (inv:(stR t r).α->Prop) (mu:(stR t r).α->Nat)
 |iw (t:Rl Av) (r:Rl Rt) (inv:(stR t r).α->(stR t r).α->Prop) (mu:(stR t r).α->Nat)
structure Hy where
 h:Hx
 fz:List Nat
 fr:List (Nat × List (Nat × Nat))
 lp:List (Nat × Lp)
abbrev Kn:=List (Nat × Nat)
def b2n (b:Bool):Nat:=cond b 1 0
def knT:Kn->Nat->Option Nat
 |[],_=>none
 |(k,b) ::l,t=>if k=t then some b else knT l t
def knN (kn:Kn):Operand->Option Nat
 | .tmp t=>knT kn t
 | .const (.bool b)=>some (b2n b)
 |_=>none
def n2b:Option Nat->Option Bool
 |some n=>some (Nat.beq n 1)
 |none=>none
def knO (kn:Kn) (x:Operand):Option Bool:=n2b (knN kn x)
def knU (kn:Kn) (d:Nat):Option Nat->Kn
 |some b=>(d,b) ::kn
 |none=>kn.filter fun q=>!(q.1 == d)
def knOp (kn:Kn):Op->Option Nat
 | .move x=>knN kn x
 | .assign x=>knN kn x
 | .unOp .not _ x=>(knN kn x).map fun n=>1-n
 |_=>none
def knD (kn:Kn) (o:Oper):Kn:=match o.dst with
 |some d=>knU kn d (knOp kn o.op)
 |none=>kn
def knA (kn:Kn) (b:Nat):Operand->Kn
 | .tmp t=>(t,b) ::kn
 |_=>kn
def brK (dc lt:Bool) (k:Option Bool) (t:Bool) (K:Bool->Prop):Prop:=if dc then cond t (K true) (K false) else match k with
 |some b=>if lt then cond (t == b) (K b) False else t=b/\K b
 |none=>br t (K true) (K false)
def rp1:List (Nat × Av)->Nat->Bool->List (Nat × Av)
 |[],_,_=>[]
 |(k,x) ::l,t,b=>if k=t then(k,.c (.b b)) ::l else(k,x) ::rp1 l t b
def rpS (lt:Bool) (s:St) (o:Operand) (b:Bool):St:=match lt,o with
 |true,.tmp t=>⟨rp1 s.tm t b,s.rt⟩
 |_,_=>s
def isPk:Op->Option (Operand × Operand × Operand)
 | .pick c a b=>some (c,a,b)
 |_=>none
def pkK (dc lt:Bool) (T:Tb) (n:Nat) (dst:Option Nat) (q:Operand × Operand × Operand) (s:St) (kn:Kn) (K:St->Kn->Prop):Prop:=match dst with
 |some d=>if d<n then(match evo T s q.1 with
  | .c (.b t)=>brK dc lt (knO kn q.1) t fun b=>K ⟨upT (rpS lt s q.1 b).tm d (evo T s (if b then q.2.1 else q.2.2)),(rpS lt s q.1 b).rt⟩ (knU (knA kn (b2n b) q.1) d (knN kn (if b then q.2.1 else q.2.2)))
  |_=>False) else False
 |none=>False
def isIx (sp:Bool) (T:Tb):Op->Option (TypeId × Operand × Operand)
 | .indexAddr t x i=>if sp && (T.ti t).kd == 2 && !((T.ti (T.ti t).el).sz == 0) && !((T.ti (T.ti t).el).kd == 0) then some (t,x,i) else none
 |_=>none
def ixG (T:Tb) (t:TypeId) (x:Av) (j:Nat) (K:Av->Prop):Prop:=match x with
 | .pa p=>K (.pa (pad p (j*(T.ti (T.ti t).el).sz)))
 | .ev l o=>K (.ev l (o+j*(T.ti (T.ti t).el).sz))
 |_=>False
def ixK (T:Tb) (n:Nat) (dst:Option Nat) (q:TypeId × Operand × Operand) (s:St) (kn:Kn) (K:St->Kn->Prop):Prop:=match dst with
 |some d=>if d<n then(match evo T s q.2.2 with
  | .c (.i _ m)=>match knN kn q.2.2 with
    |some j=>(m=(j:Int)/\j<(T.ti q.1).ln)/\ixG T q.1 (evo T s q.2.1) j fun v=>K ⟨upT s.tm d v,s.rt⟩ (knU kn d none)
    |none=>(0<=m/\m<((T.ti q.1).ln:Int))/\spl m (T.ti q.1).ln fun j=>ixG T q.1 (evo T s q.2.1) j fun v=>K ⟨upT s.tm d v,s.rt⟩ (knU (knA kn j q.2.2) d none)
  |_=>False) else False
 |none=>False
def vcO (lt:Bool) (H:Hy) (T:Tb) (ct:Cts) (n:Nat) (o:Oper) (s:St) (kn:Kn) (K:St->Kn->Prop):Prop:=match fnC o.op with
 |some (f,xs,ats)=>preK H.h T s (jLC xs.toList (T.md f) ats.toList) fun as st1 bp=>match ct f as with
  |some c=>c.pr/\∀x:c.α,c.po x->jPk H.h T n o.dst st1 bp (c.rs x) (c.bs x) fun s'=>K s' (knD kn o)
  |none=>False
 |none=>match isPk o.op with
  |some q=>pkK H.h.dc lt T n o.dst q s kn K
  |none=>match isIx H.h.sp T o.op with
   |some q=>ixK T n o.dst q s kn K
   |none=>jOV H.h T n H.fz s o fun s'=>K s' (knD kn o)
def vcS (lt:Bool) (H:Hy) (T:Tb) (ct:Cts) (n:Nat) (ops:Array Oper) (o:Oper) (s:St) (kn:Kn) (K:St->Kn->Prop):Prop:=match o.guard with
 |none=>vcO lt H T ct n o s kn K
 |some (j,want)=>match (ops[j]?).bind (·.dst) with
  |some t=>match lkt s.tm t with
   | .tp []=>li (jLV n o s) fun s'=>K s' (knD kn o)
   | .c (.b x)=>brK H.h.dc lt (n2b (knT kn t)) x fun b=>if b == want then vcO lt H T ct n o (rpS lt s (.tmp t) b) ((t,b2n b) ::kn) K else li (jLV n o (rpS lt s (.tmp t) b)) fun s'=>K s' (knD ((t,b2n b) ::kn) o)
   |_=>False
  |none=>False
def vcL (H:Hy) (T:Tb) (ct:Cts) (n:Nat) (ops:Array Oper):List Oper->St->Kn->(St->Kn->Prop)->Prop
 |[],st,kn,K=>K st kn
 |o ::l,st,kn,K=>vcS true H T ct n ops o st kn fun st kn=>vcL H T ct n ops l st kn K
def vcD (H:Hy) (T:Tb) (ct:Cts) (n:Nat) (ops:Array Oper):List Oper->St->Kn->(List Lt->St->Kn->Prop)->Prop
 |[],st,kn,K=>K [] st kn
 |o ::l,st,kn,K=>vcS false H T ct n ops o (jJ8 (jLI T ops st o) st) kn fun s' kn=>if jN2 T o (jLI T ops st o) (jJ8 (jLI T ops st o) st) s' st then vcD H T ct n ops l (mkM T (ltOf (jLI T ops st o) (jJ8 (jLI T ops st o) st) s') st) kn (fun τs st' kn=>K (ltOf (jLI T ops st o) (jJ8 (jLI T ops st o) st) s' ::τs) st' kn) else False
def itK (f:St->Kn->(Exit->St->Kn->Prop)->Prop) (K:Exit->St->Kn->Prop):Nat->St->Kn->Prop
 |0,_,_=>False
 |k+1,st,kn=>f st kn fun e st kn=>match e with
  | .normal=>itK f K k st kn
  |e=>K e st kn
def rid:Code->Option Nat
 | .region id _ _=>some id
 | .seq a b=>match rid a with
   |some i=>some i
   |none=>rid b
 | .cond _ a b=>match rid a with
   |some i=>some i
   |none=>rid b
 | .block _ a=>rid a
 | .loop a=>rid a
 |_=>none
def lkL:List (Nat × Lp)->Option Nat->Option Lp
 |[],_=>none
 |_,none=>none
 |(k,x) ::l,some i=>if k=i then some x else lkL l (some i)
def lkF:List (Nat × List (Nat × Nat))->Nat->List (Nat × Nat)
 |[],_=>[]
 |(k,x) ::l,i=>if k=i then x else lkF l i
def jL6 (T:Tb):List (Nat × Nat)->St->(St->Prop)->Prop
 |[],st,K=>K st
 |(r,o) ::l,st,K=>if Nat.ble 3000000 o then opn T st r (o-3000000) fun st=>jL6 T l st K else if Nat.ble 2000000 o then ren T st r (o-2000000) fun st=>jL6 T l st K else frz T st r o fun st=>jL6 T l st K
def kpS (T:Tb) (kt kr:List Nat) (st:St):St:=⟨kt.map fun k=>(k,lkt st.tm k),kr.filterMap fun k=>(lkr T st.rt k).map fun R=>(k,R)⟩
def kpB (T:Tb) (kt kr:List Nat) (st:St):Bool:=(kr.all fun k=>Nat.blt k 1000000) && (kt.all fun k=>(nms (lkt st.tm k)).all fun r=>kr.contains r && (lkr T st.rt r).isSome) && st.rt.all fun q=>!(q.2.kd == 0) || kr.contains q.1
def nxt (T:Tb) (t:Rl Av) (r:Rl Rt) (st:St) (K:(stR t r).α->Prop):Prop:=if kpB T t.ks r.ks st && jLb st then(stR t r).un (kpS T t.ks r.ks st) K else False
def vcC (H:Hy) (T:Tb) (ct:Cts) (n:Nat):Code->St->Kn->(Exit->St->Kn->Prop)->Prop
 | .skip,st,kn,K=>K .normal st kn
 | .region id ops d,st,kn,K=>jL6 T (lkF H.fr id) st fun st=>if d then vcD H T ct n ops ops.toList st kn (fun τs st kn=>if jL7 [] τs (jMz ops.toList []) && jL0 ops.toList 0 then K .normal st kn else False) else vcL H T ct n ops ops.toList st kn (K .normal)
 | .seq a b,st,kn,K=>vcC H T ct n a st kn fun e st kn=>match e with
   | .normal=>vcC H T ct n b st kn K
   |e=>K e st kn
 | .cond o x y,st,kn,K=>match evo T st o with
   | .c (.b t)=>if H.h.dc then cond t (vcC H T ct n x st kn K) (vcC H T ct n y st kn K) else match knO kn o with
     |some true=>t=true/\vcC H T ct n x st kn K
     |some false=>t=false/\vcC H T ct n y st kn K
     |none=>br t (vcC H T ct n x (rpS true st o true) (knA kn 1 o) K) (vcC H T ct n y (rpS true st o false) (knA kn 0 o) K)
   |_=>False
 | .block id x,st,kn,K=>vcC H T ct n x st kn fun e st kn=>match e with
   | .exit id'=>if id'=id then K .normal st kn else K (.exit id') st kn
   |e=>K e st kn
 | .loop x,st,kn,K=>match lkL H.lp (rid x) with
   |some (.un k)=>itK (vcC H T ct n x) K k st kn
   |some (.iv t r inv mu)=>nxt T t r st inv/\∀a,inv a->vcC H T ct n x ((stR t r).f a) [] fun e st kn=>match e with
    | .normal=>nxt T t r st fun a'=>inv a'/\mu a'<mu a
    |e=>K e st kn
   |some (.iw t r inv mu)=>nxt T t r st fun a0=>inv a0 a0/\∀a,inv a0 a->vcC H T ct n x ((stR t r).f a) [] fun e st kn=>match e with
    | .normal=>nxt T t r st fun a'=>inv a0 a'/\mu a'<mu a
    |e=>K e st kn
   |none=>False
 | .exit id,st,kn,K=>K (.exit id) st kn
 | .ret,st,kn,K=>K .ret st kn
 | .label _,st,kn,K=>K .normal st kn
 |_,_,_,_=>False
section
variable {T:Tb}{H:Hy}{ct:Cts}{n:Nat}{ops:Array Oper}(hct:Good T ct)
theorem jYG {op:Op}{f:Nat}{xs:Array Operand}{B:Array TypeId}(h:fnC op=some (f,xs,B)):op= .call ⟨.value (.func f),xs,B⟩:=by
 unfold fnC at h
 split at h
 .cases h;rfl
 .cases h
theorem jT5 {dc lt:Bool}{k:Option Bool}{t:Bool}{K:Bool->Prop}(h:brK dc lt k t K):∃b,t=b/\K b:=by
 unfold brK at h
 split at h
 .cases t
  .exact⟨_,rfl,h⟩
  .exact⟨_,rfl,h⟩
 split at h
 .rename_i b
  split at h
  .cases hb :t == b with
   |true=>rw[hb]at h;exact⟨_,by simpa using hb,h⟩
   |false=>rw[hb]at h;cases h
  .exact⟨_,h.1,h.2⟩
 .rcases jQV h with⟨e,h'⟩|⟨e,h'⟩
  .exact⟨_,e,h'⟩
  .exact⟨_,e,h'⟩
theorem jRZ {b:Bool}{t:Nat}:∀{l:List (Nat × Av)},lkt l t= .c (.b b)->rp1 l t b=l
 |[],h=>rfl
 |(k,x) ::l,h=>by
  simp only[lkt]at h;simp only[rp1]
  split
  .rename_i e
   rw[if_pos e]at h;rw[h]
  .rename_i e
   rw[if_neg e]at h;rw[jRZ h]
theorem jNQ {lt:Bool}{s:St}{o:Operand}{b:Bool}(h:evo T s o= .c (.b b)):rpS lt s o b=s:=by
 unfold rpS
 split
 .have h:lkt s.tm _= .c (.b b):=h
  rw[jRZ h]
 .rfl
include hct in
theorem jRs {lt:Bool}{o:Oper}{s:St}{P:Kn}{K:St->Kn->Prop}(h:vcO lt H T ct n o s P K) (J:jKz T s ops o=some true):∃s' kn',jLy T n H.fz ops o s s'/\K s' kn':=by
 unfold vcO at h
 split at h
 .rename_i f xs ats hf
  obtain⟨as,st1,bp,hp,h⟩:=jWq h
  split at h
  .rename_i c hc
   obtain⟨E,h2⟩:=h;obtain⟨x,hx,Z⟩:=hct _ _ _ hc E;obtain⟨s',V,Y⟩:=jWv (h2 x hx);exact⟨s',_,.fn J (jYG hf) hp Z V,Y⟩
  .cases h
 .split at h
  .rename_i q hq
   have B:o.op= .pick q.1 q.2.1 q.2.2:=by
    unfold isPk at hq
    split at hq
    .rename_i e;cases hq;exact e
    .cases hq
   unfold pkK at h
   split at h
   .rename_i d hd
    split at h
    .rename_i hn
     split at h
     .rename_i t ht
      obtain⟨b,e,h⟩:=jT5 h;subst e;rw[jNQ ht]at h;refine⟨_,_,.st J ?_,h⟩;rw[jOU hd (by rw[B];rfl) hn,B];simp only[opR,ht];cases t <;> rfl
     .cases h
    .cases h
   .cases h
  .split at h
   .rename_i q hq
    have B:o.op= .indexAddr q.1 q.2.1 q.2.2/\(T.ti q.1).kd=2/\¬((T.ti (T.ti q.1).el).sz=0\/(T.ti (T.ti q.1).el).kd=0):=by
     unfold isIx at hq
     split at hq
     .rename_i e
      split at hq
      .rename_i hc
       cases hq;simp only[Bool.and_eq_true,beq_iff_eq,Bool.not_eq_true',beq_eq_false_iff_ne]at hc;exact⟨e,hc.1.1.2,fun h=>by rcases h with h|h;exact hc.1.2 h;exact hc.2 h⟩
      .cases hq
     .cases hq
    obtain⟨B,G,O⟩:=B
    have go:∀{d:Nat}{j:Nat}{K':Av->Prop},o.dst=some d->d<n->jKZ (evo T s q.2.2)=some j->j<(T.ti q.1).ln->ixG T q.1 (evo T s q.2.1) j K'->∃v,jKG T n H.fz s o=some ⟨upT s.tm d v,s.rt⟩/\K' v:=fun {d j K'} hd hn hj hl hg=>by
     rw[jOU hd (by rw[B];rfl) hn,B];unfold ixG at hg
     split at hg
     .rename_i p hp
      refine⟨_,?_,hg⟩;simp only[opR,jLZ,hj];rw[if_neg O,if_neg (by rw[G];decide),if_pos G,if_pos hl,hp];rfl
     .rename_i l o' hp
      refine⟨_,?_,hg⟩;simp only[opR,jLZ,hj];rw[if_neg O,if_neg (by rw[G];decide),if_pos G,if_pos hl,hp];rfl
     .cases hg
    unfold ixK at h
    split at h
    .rename_i d hd
     split at h
     .rename_i hn
      split at h
      .rename_i k m hm
       have M:0<=m->jKZ (evo T s q.2.2)=some m.toNat:=fun h0=>by
        rw[hm];show(if(0:Int)<=m then some m.toNat else none)=_;rw[if_pos h0]
       split at h
       .rename_i j hj
        obtain⟨⟨e,hl⟩,h⟩:=h;obtain⟨v,E,h2⟩:=go hd hn (by rw[M (by omega),e];rfl) hl h;exact⟨_,_,.st J E,h2⟩
       .obtain⟨⟨h0,E⟩,h⟩:=h
        have h:=jOY h h0 E;obtain⟨v,E,h2⟩:=go hd hn (M h0) (by omega) h;exact⟨_,_,.st J E,h2⟩
      .cases h
     .cases h
    .cases h
   .obtain⟨s',E,h2⟩:=jVc h
    exact⟨s',_,.st J E,h2⟩
include hct in
theorem jRr {lt:Bool}{o:Oper}{s:St}{E:Kn}{K:St->Kn->Prop}(h:vcS lt H T ct n ops o s E K):∃s' kn',jLy T n H.fz ops o s s'/\K s' kn':=by
 unfold vcS at h
 split at h
 .rename_i hg
  exact jRs hct h (by unfold jKz;rw[hg])
 .rename_i j want hg
  split at h
  .rename_i t ht
   split at h
   .rename_i hx
    obtain⟨s',B,h2⟩:=jJ4 h;exact⟨s',_,.sk (by unfold jKz;simp only[hg,ht,hx]) B,h2⟩
   .rename_i x hx
    obtain⟨b,e,h⟩:=jT5 h;have hW:jKz T s ops o=some (b == want):=by subst e;unfold jKz;simp only[hg,ht,hx]
    rw[jNQ (T:=T) (o:=.tmp t) (by subst e;exact hx)]at h
    split at h
    .rename_i hb
     exact jRs hct h (by rw[hW,hb])
    .rename_i hb
     obtain⟨s',B,h2⟩:=jJ4 h;exact⟨s',_,.sk (by rw[hW];simpa using hb) B,h2⟩
   .cases h
  .cases h
theorem jLy.list {fz:List Nat}{K:St->Prop}{o:Oper}{rest:List Oper}{s E:St}(h:jLy T n fz ops o s E) (B:jKq T n fz ops K rest E):jKq T n fz ops K (o ::rest) s:=by
 cases h with
 |st hw h=>exact .go hw (.st _ h B)
 |fn hw ho h1 hD h2=>exact .go hw (.fn ho h1 hD h2 B)
 |sk hw h=>exact .skip hw h B
include hct in
theorem jRt:∀{l:List Oper}{st:St}{kn:Kn}{K:St->Kn->Prop},vcL H T ct n ops l st kn K->∃st' kn',jKq T n H.fz ops (fun s=>s=st') l st/\K st' kn'
 |[],st,kn,K,h=>⟨st,kn,rfl,h⟩
 |o ::l,st,kn,K,h=>by
  obtain⟨J,kn',B,h2⟩:=jRr hct h;obtain⟨st',kn',E,G⟩:=jRt h2;exact⟨st',kn',B.list E,G⟩
include hct in
theorem jRu:∀{l:List Oper}{st:St}{kn:Kn}{K:List Lt->St->Kn->Prop},vcD H T ct n ops l st kn K->∃τs st' kn',jLS T n H.fz ops l st τs st'/\K τs st' kn'
 |[],st,kn,K,h=>⟨[],st,kn,.nil,h⟩
 |o ::l,st,kn,K,h=>by
  obtain⟨M,J,B,h2⟩:=jRr hct h
  split at h2
  .rename_i hL
   obtain⟨τs,st',kn',E,G⟩:=jRu h2;exact⟨_,st',kn',.cons rfl rfl B hL rfl E,G⟩
  .cases h2
theorem jNi:∀{l:List (Nat × Nat)}{st:St}{K:St->Prop},jL6 T l st K->∃st',Wk T st st'/\K st'
 |[],st,K,h=>⟨st,Wk.refl st,h⟩
 |(r,o) ::l,st,K,h=>by
  simp only[jL6]at h
  split at h
  .obtain⟨s1,h1,h2⟩:=jWA h
   obtain⟨s2,B,E⟩:=jNi h2;exact⟨s2,h1.trans B,E⟩
  split at h
  .obtain⟨s1,h1,h2⟩:=jV3 h
   obtain⟨s2,B,E⟩:=jNi h2;exact⟨s2,h1.trans B,E⟩
  .obtain⟨s1,h1,h2⟩:=jYC h
   obtain⟨s2,B,E⟩:=jNi h2;exact⟨s2,h1.trans B,E⟩
inductive Rn (T:Tb) (n:Nat) (x:Code) (e:Exit) (st':St):Nat->St->Prop where
 |last {st:St}(hn:e≠.normal) (h:Vw T n x (fun e' s=>e'=e/\s=st') st):Rn T n x e st' 0 st
 |more {k:Nat}{st s1 s2:St}(h:Vw T n x (fun e' s=>e'= .normal/\s=s1) st) (hw:Wk T s1 s2) (h':Rn T n x e st' k s2):Rn T n x e st' (k+1) st
theorem Rn.loop {x:Code}{e:Exit}{st' st:St}{k:Nat}(h:Rn T n x e st' k st):Vw T n (.loop x) (fun e' s=>e'=e/\s=st') st:=by
 refine Vw.loop (fun k s=>Rn T n x e st' k s) k h fun k s hs=>?_
 cases hs with
 |last hn h=>
  refine h.mono fun e' s ⟨h1,h2⟩=>?_;subst h1
  cases e' with
  |normal=>exact absurd rfl hn
  |_=>exact⟨rfl,h2⟩
 |@more k _ s1 s2 h hw h'=>
  refine(h.post hw).mono fun e' s ⟨h1,h2⟩=>?_;subst h1;subst h2;exact⟨k,Nat.lt_succ_self k,h'⟩
theorem jXO {E B:List Nat}{st:St}(h:kpB T E B st=true) (hk:jLb st=true):Wk T st (kpS T E B st):=by
 unfold kpB at h;simp only[Bool.and_eq_true]at h;obtain⟨⟨M,h2⟩,J⟩:=h
 have lt:∀t,lkt (kpS T E B st).tm t=if t ∈ E then lkt st.tm t else .u:=fun t=>by
  have:=jN4 (fun k=>lkt st.tm k) [] E t;rw[List.append_nil]at this;exact this
 have G:∀k,lkr T (kpS T E B st).rt k=if k ∈ B/\(lkr T st.rt k).isSome=true then lkr T st.rt k else lkr T [] k:=fun k=>by
  have:=jN8 (T:=T) (fun k=>lkr T st.rt k) [] B k;rw[List.append_nil]at this;exact this
 refine Wk.drop (fun k R hk'=>?_) (fun k R hk' h0=>?_) fun t=>?_
 .rw[G]at hk'
  split at hk'
  .exact hk'
  .have hge:1000000<=k:=by
    rcases Nat.lt_or_ge k 1000000 with h|h
    .simp only[lkr,T.gl0 k h]at hk';cases hk'
    .exact h
   rw[jLG hk k hge];exact hk'
 .rw[G,if_pos]
  .exact hk'
  .have:=List.all_eq_true.1 J _ (jN5 hk' h0)
   rw[hk'];simpa[h0] using this
 .rw[lt]
  split
  .rename_i ht
   refine .inr ⟨rfl,fun r hr=>?_⟩;have:=List.all_eq_true.1 (List.all_eq_true.1 h2 _ ht) r hr;rw[Bool.and_eq_true]at this;rw[G,if_pos ⟨by simpa using this.1,this.2⟩];exact this.2
  .exact .inl rfl
theorem jSo {t:Rl Av}{r:Rl Rt}{st:St}{K:(stR t r).α->Prop}(h:nxt T t r st K):∃a,Wk T st ((stR t r).f a)/\K a:=by
 unfold nxt at h
 split at h
 .rename_i hk
  obtain⟨a,e,h⟩:=(stR t r).ok _ _ h;rw[Bool.and_eq_true]at hk;exact⟨a,by rw[<-e];exact jXO hk.1 hk.2,h⟩
 .cases h
include hct in
theorem jUL:∀{c:Code}{st:St}{kn:Kn}{K:Exit->St->Kn->Prop},vcC H T ct n c st kn K->∃e st' kn',Vw T n c (fun e' s=>e'=e/\s=st') st/\K e st' kn':=by
 intro c
 induction c with
 |skip=>intro st kn K h;exact⟨_,_,_,.skip ⟨rfl,rfl⟩,h⟩
 |region id ops d=>
  intro st kn K h;obtain⟨l⟩:=ops;simp only[vcC]at h;obtain⟨E,P,h⟩:=jNi h
  cases d with
  |true=>
   rw[if_pos rfl]at h;obtain⟨τs,st',kn',B,h2⟩:=jRu hct h
   split at h2
   .rename_i hb
    rw[Bool.and_eq_true]at hb;exact⟨_,_,_,.wk P (Vw.draw B hb.1 hb.2 ⟨rfl,rfl⟩),h2⟩
   .cases h2
  |false=>
   rw[if_neg (by simp)]at h;obtain⟨st',kn',B,h2⟩:=jRt hct h;refine⟨.normal,st',kn',.wk P (Vw.region (fz:=H.fz) ?_),h2⟩;simpa using B
 |seq a b iha ihb=>
  intro st kn K h;simp only[vcC]at h;obtain⟨G,E,O,B,h2⟩:=iha h
  cases G with
  |normal=>
   obtain⟨e2,s2,k2,J,M⟩:=ihb h2;refine⟨e2,s2,k2,.seq (B.mono fun e' s ⟨x,y⟩=>?_),M⟩;subst x;subst y;exact J
  |_=>
   refine⟨_,E,_,.seq (B.mono fun e' s ⟨x,y⟩=>?_),h2⟩;subst x;subst y;exact⟨rfl,rfl⟩
 |cond o x y ihx ihy=>
  intro st kn K h;simp only[vcC]at h
  split at h
  .rename_i t ht
   have Z:t=true->∀{kn},vcC H T ct n x st kn K->∃e st' kn',Vw T n (.cond o x y) (fun e' s=>e'=e/\s=st') st/\K e st' kn':=fun e kn hh=>by
    subst e;obtain⟨e,s,k,B,h2⟩:=ihx hh;exact⟨e,s,k,.cond ht B,h2⟩
   have no:t=false->∀{kn},vcC H T ct n y st kn K->∃e st' kn',Vw T n (.cond o x y) (fun e' s=>e'=e/\s=st') st/\K e st' kn':=fun e kn hh=>by
    subst e;obtain⟨e,s,k,B,h2⟩:=ihy hh;exact⟨e,s,k,.cond ht B,h2⟩
   split at h
   .cases t
    .exact no rfl h
    .exact Z rfl h
   split at h
   .exact Z h.1 h.2
   .exact no h.1 h.2
   .rcases jQV h with⟨e,h'⟩|⟨e,h'⟩
    .rw[jNQ (by rw[ht,e])]at h'
     exact Z e h'
    .rw[jNQ (by rw[ht,e])]at h'
     exact no e h'
  .cases h
 |block id x ih=>
  intro st kn K h;simp only[vcC]at h;obtain⟨G,E,O,B,h2⟩:=ih h
  cases G with
  |exit id'=>
   simp only at h2
   split at h2
   .rename_i hid
    refine⟨.normal,E,O,.block (B.mono fun e' s ⟨x,y⟩=>?_),h2⟩;subst x;simp only[InB,hid,if_true];exact⟨trivial,y⟩
   .rename_i hid
    refine⟨.exit id',E,O,.block (B.mono fun e' s ⟨x,y⟩=>?_),h2⟩;subst x;simp only[InB,hid,if_false];exact⟨trivial,y⟩
  |_=>
   refine⟨_,E,_,.block (B.mono fun e' s ⟨x,y⟩=>?_),h2⟩;subst x;subst y;exact⟨rfl,rfl⟩
 |loop x ih=>
  intro st kn K h;simp only[vcC]at h
  split at h
  .rename_i k hk
   have:∀(k:Nat) (st:St) (kn:Kn),itK (vcC H T ct n x) K k st kn->∃m e st' kn',Rn T n x e st' m st/\K e st' kn':=by
    intro k
    induction k with
    |zero=>intro st kn h;cases h
    |succ k ihk=>
     intro st kn h;simp only[itK]at h;obtain⟨G,E,O,B,h2⟩:=ih h
     cases G with
     |normal=>
      obtain⟨m,e,st',kn',J,M⟩:=ihk E O h2;exact⟨m+1,e,st',kn',.more B (Wk.refl _) J,M⟩
     |_=>exact⟨0,_,E,_,.last (by simp) B,h2⟩
   obtain⟨m,e,st',kn',B,h2⟩:=this k st kn h;exact⟨e,st',kn',B.loop,h2⟩
  .rename_i t r inv mu hk
   obtain⟨h0,hr⟩:=h;obtain⟨a,P,ha⟩:=jSo h0
   have:∀(k:Nat) (a:(stR t r).α),mu a<k->inv a->∃m e st' kn',Rn T n x e st' m ((stR t r).f a)/\K e st' kn':=by
    intro k
    induction k with
    |zero=>intro a h;omega
    |succ k ihk=>
     intro a h5 ha;obtain⟨G,E,O,B,h2⟩:=ih (hr a ha)
     cases G with
     |normal=>
      obtain⟨a',Y,V,hm⟩:=jSo h2;obtain⟨m,e,st',kn',J,M⟩:=ihk a' (by omega) V;exact⟨m+1,e,st',kn',.more B Y J,M⟩
     |_=>exact⟨0,_,E,_,.last (by simp) B,h2⟩
   obtain⟨m,e,st',kn',B,h2⟩:=this _ a (Nat.lt_succ_self _) ha;exact⟨e,st',kn',.wk P B.loop,h2⟩
  .rename_i t r inv mu hk
   obtain⟨a0,P,ha,hr⟩:=jSo h
   have:∀(k:Nat) (a:(stR t r).α),mu a<k->inv a0 a->∃m e st' kn',Rn T n x e st' m ((stR t r).f a)/\K e st' kn':=by
    intro k
    induction k with
    |zero=>intro a h;omega
    |succ k ihk=>
     intro a h5 ha;obtain⟨G,E,O,B,h2⟩:=ih (hr a ha)
     cases G with
     |normal=>
      obtain⟨a',Y,V,hm⟩:=jSo h2;obtain⟨m,e,st',kn',J,M⟩:=ihk a' (by omega) V;exact⟨m+1,e,st',kn',.more B Y J,M⟩
     |_=>exact⟨0,_,E,_,.last (by simp) B,h2⟩
   obtain⟨m,e,st',kn',B,h2⟩:=this _ a0 (Nat.lt_succ_self _) ha;exact⟨e,st',kn',.wk P B.loop,h2⟩
  .cases h
 |exit id=>intro st kn K h;exact⟨_,_,_,.exit ⟨rfl,rfl⟩,h⟩
 |ret=>intro st kn K h;exact⟨_,_,_,.ret ⟨rfl,rfl⟩,h⟩
 |label l=>intro st kn K h;exact⟨_,_,_,.label ⟨rfl,rfl⟩,h⟩
 |_=>intros;rename_i h;cases h
end
def jW (T:Tb):List Nat->List Bool->St->Option (List Arg × St)
 |[],_,st=>some ([],st)
 |t ::ts,m ::ms,st=>if m then(match takeV T st (lkt st.tm t) with
    |some (l,st1)=>match jW T ts ms st1 with
     |some (rs,st2)=>some (.ow l (jLr (lkt st.tm t)) ::rs,st2)
     |none=>none
    |none=>none) else(if jKg (lkt st.tm t) then(match jW T ts ms st with
     |some (rs,st2)=>some (.pl (lkt st.tm t) ::rs,st2)
     |none=>none) else none)
 |_ ::_,[],_=>none
def bsE (T:Tb) (st:St):Nat->List Arg->Option (List (List C))
 |i,.bp _ ::as=>match lkr T st.rt i with
  |some R=>if R.kd=0 then(match bsE T st (i+1) as with
   |some bs=>some (R.cs ::bs)
   |none=>none) else none
  |none=>none
 |i,_ ::as=>bsE T st (i+1) as
 |_,[]=>some []
def jTf:Exit->Bool
 | .normal=>true
 | .ret=>true
 |_=>false
def endK (T:Tb) (fn:Func) (xs:List Arg) (fr:List (Nat × Nat)) (rm:List Bool) (c:Ct) (e:Exit) (st:St) (_:Kn):Prop:=if jTf e then jL6 T fr st fun st=>li (jLD T 0 fn.results.toList st) fun q=>li (jW T q.1 rm q.2) fun q=>li (bsE T q.2 0 xs) fun bs=>if kd0 q.2 (bpR 0 xs bs) && jLb q.2 && Nat.ble xs.length fn.ntmps && Nat.ble xs.length 1000 && !(fn.name == "runtime.NumGoroutine") then c.fi q.1 bs else False else False
def vcF (H:Hy) (T:Tb) (ct:Cts) (fr:List (Nat × Nat)) (rm:List Bool) (fn:Func) (xs:List Arg) (c:Ct):Prop:=match fn.body with
 |some code=>vcC H T ct fn.ntmps code (entry xs) [] (endK T fn xs fr rm c)
 |none=>False
section
variable {T:Tb}
theorem jO5:∀{ts:List Nat}{ms:List Bool}{st st':St}{rs:List Arg},jW T ts ms st=some (rs,st')->jK2 T ts st rs st'
 |[],ms,st,st',rs,h=>by simp only[jW]at h;cases h;exact .nil
 |t ::ts,[],st,st',rs,h=>by cases h
 |t ::ts,m ::ms,st,st',rs,h=>by
  simp only[jW]at h
  split at h
  .split at h
   .rename_i l st1 h1
    split at h
    .rename_i rs' st2 h2
     cases h;exact .ow h1 rfl (jO5 h2)
    .cases h
   .cases h
  .split at h
   .rename_i hp
    split at h
    .rename_i rs' st2 h2
     cases h;exact .pl rfl hp (jO5 h2)
    .cases h
   .cases h
theorem jMM {st:St}:∀{xs:List Arg}{i:Nat}{bs:List (List C)},bsE T st i xs=some bs->jMS T st (bpR i xs bs)
 |[],i,bs,h=>by
  simp only[bsE]at h;cases h;trivial
 |x ::xs,i,bs,h=>by
  cases x with
  |bp l=>
   simp only[bsE]at h
   split at h
   .rename_i R hR
    split at h
    .rename_i h0
     split at h
     .rename_i bs' h1
      cases h;refine⟨?_,jMM h1⟩;rw[hR];cases R;simp only at h0;subst h0;rfl
     .cases h
    .cases h
   .cases h
  |pl y=>simp only[bsE]at h;exact jMM (xs:=xs) (i:=i+1) h
  |ow l o=>simp only[bsE]at h;exact jMM (xs:=xs) (i:=i+1) h
  |rv l o=>simp only[bsE]at h;exact jMM (xs:=xs) (i:=i+1) h
  |br l=>simp only[bsE]at h;exact jMM (xs:=xs) (i:=i+1) h
theorem Jb8 {H:Hy}{ct:Cts}(hct:Good T ct) {fr:List (Nat × Nat)}{rm:List Bool}{f:Nat}{fn:Func}{xs:List Arg}{c:Ct}(hf:T.P.funcs[f]? =some fn) {P:Prop}(hP:vcF H T ct fr rm fn xs c=P) (h:P):Tot T c f xs:=by
 rw[<-hP]at h;clear hP;unfold vcF at h
 split at h
 .rename_i code hb
  unfold Tot
  .obtain⟨e,st,_,hv,hE⟩:=jUL hct h
   unfold endK at hE
   split at hE
   .rename_i hen
    obtain⟨s1,hw,hE⟩:=jNi hE;obtain⟨⟨ts,st1⟩,M,hE⟩:=jJ4 hE;obtain⟨⟨rs,O⟩,hr,hE⟩:=jJ4 hE;obtain⟨bs,G,hE⟩:=jJ4 hE
    split at hE
    .rename_i hck
     simp only[Bool.and_eq_true]at hck;obtain⟨⟨⟨⟨V,Y⟩,Z⟩,c4⟩,c6⟩:=hck;obtain⟨x,B,E,J⟩:=c.hf _ _ hE;refine⟨x,J,?_⟩;simp only at B;rw[<-B,<-E];refine jY3 hf hb (by simpa using c6) (Nat.le_of_ble_eq_true Z) (Nat.le_of_ble_eq_true c4) ((hv.post hw).mono fun e' s ⟨x,y⟩=>?_);subst x;subst y;refine⟨?_,ts,st1,O,M,jO5 hr,jMM G,V,Y⟩;unfold jTf at hen
     split at hen
     .exact .inl rfl
     .exact .inr rfl
     .cases hen
    .cases hE
   .cases hE
 .cases h
end
theorem vR {T:Tb}(H:Hy) {ct:Cts}(g:Good T ct) (fr:List (Nat × Nat)) (rm:List Bool) {f:Nat}{fn:Func}{xs:List Arg}{c:Ct}(hf:T.P.funcs[f]? =some fn) (P:Prop) (e:vcF H T ct fr rm fn xs c=P) (h:P):Tot T c f xs:=Jb8 g hf e h
theorem vF {T:Tb}(H:Hy) {ct:Cts}(g:Good T ct) {f:Nat}{fn:Func}{xs:List Arg}{c:Ct}(hf:T.P.funcs[f]? =some fn) (P:Prop) (e:vcF H T ct [] [false] fn xs c=P) (h:P):Tot T c f xs:=Jb8 g hf e h
theorem vN {T:Tb}(H:Hy) {ct:Cts}(g:Good T ct) {f:Nat}{fn:Func}{xs:List Arg}{c:Ct}(hf:T.P.funcs[f]? =some fn) (P:Prop) (e:vcF H T ct [] [] fn xs c=P) (h:P):Tot T c f xs:=Jb8 g hf e h
variable {T:Tb}
theorem Does.wk {f:Nat}{xs B rs:List Arg}{bs:List (List C)}(h:Does T f B rs bs) (G:Wk T (entry xs) (entry B)) (hl:B.length=xs.length) (E:jKl B rs bs=jKl xs rs bs):Does T f xs rs bs:=⟨h.1,fun c hc hst hX hu=>by
 obtain⟨V,Y,Z,k3,k4,J,k6⟩:=G c hc hst hX;have:=h.2 V Y k3 k6 (fun t ht=>by rw[J];exact hu t (by omega));rw[k4,J,hl]at this;refine this.mono ?_;rintro e w' ⟨c',v,M,a2,a3,a4,a5,O,P⟩
 exact⟨c',v,M,a2,a3,Z.trans a4,by rw[a5,E],O,P⟩⟩
def pN (n:Int):Arg:=.pl (.c (.i .i64 n))
theorem jNm:∀(ns:List Int) (i:Nat),jKb i (ns.map pN)=[]
 |[],i=>rfl
 |n ::ns,i=>jNm ns (i+1)
theorem jPH:∀(ns:List Int) (i t:Nat),nms (lkt (jJ1 i (ns.map pN)) t)=[]
 |[],i,t=>rfl
 |n ::ns,i,t=>by
  show nms (if i=t then _ else _)=[]
  split
  .rfl
  .exact jPH ns (i+1) t
theorem Does.rvp {f:Nat}{l:List C}{ns:List Int}{rs:List Arg}{bs:List (List C)}(h:Does T f (.pl (.ag l) ::ns.map pN) rs bs) (hp:l.all plain=true):Does T f (.rv l false ::ns.map pN) rs bs:=by
 refine h.wk ?_ rfl rfl
 have M:entry (.rv l false ::ns.map pN)=⟨(0,.la ⟨0,0,[]⟩ l.length) ::jJ1 1 (ns.map pN),[(0,⟨4,l⟩)]⟩:=by
  show(⟨_,(0,⟨4,l⟩) ::jKb 1 (ns.map pN)⟩:St)=_;rw[jNm];rfl
 have O:entry (.pl (.ag l) ::ns.map pN)=⟨(0,.ag l) ::jJ1 1 (ns.map pN),[]⟩:=by
  show(⟨_,jKb 1 (ns.map pN)⟩:St)=_;rw[jNm];rfl
 rw[M,O];refine Wk.trans (st':=⟨(0,.ag l) ::jJ1 1 (ns.map pN),[(0,⟨4,l⟩)]⟩) ?_ (Wk.drop (fun k R hk=>?_) (fun k R hk h0=>?_) fun t=>.inr ⟨rfl,fun r hr=>?_⟩)
 .intro c hc hst hX
  have E:=hc.sx.sr;have hR:lkr T c.st.rt 0=some ⟨4,l⟩:=by rw[hst];rfl
  have B:=E.rts 0 _ hR;have B:RL c.w c.A l (c.mo 0).vs (c.fp 0):=B;have hF:=B.pl hp;have J:=E.tms 0;rw[hst]at J;obtain⟨arr,q1,q2,q3⟩:∃arr:Array Value,c.a 0= .agg arr/\arr.size=l.length/\∀w',Agr (c.fp 0) c.w w'->vls w' (c.mo 0) ⟨0,0,[]⟩ l.length=some arr.toList:=J;have q3:=q3 c.w fun _ _=>rfl;simp only[vls]at q3
  split at q3
  .rw[List.drop_zero,List.take_of_length_le (by rw[<-B.len];exact Nat.le_refl _)]at q3
   have q3:(c.mo 0).vs=arr.toList:=by injection q3
   refine⟨{c with st:=⟨(0,.ag l) ::jJ1 1 (ns.map pN),[(0,⟨4,l⟩)]⟩},⟨⟨⟨fun k S hk=>?_,fun k S hk=>?_,fun k S hk=>?_,fun k k' S S' hne hk hk'=>?_,fun t=>?_,fun k hk=>?_,E.gl⟩,hc.sx.nd,hc.sx.na,hc.sx.dj,hc.sx.lt⟩,hc.al⟩,Stp.tmp (by rw[hst]),rfl,rfl,rfl,hX⟩
   .exact E.rts k S (by rw[hst];exact hk)
   .exact E.nd k S (by rw[hst];exact hk)
   .exact E.fa k S (by rw[hst];exact hk)
   .exact E.dj k k' S S' hne (by rw[hst];exact hk) (by rw[hst];exact hk')
   .have G:=E.tms t
    rw[hst]at G;show TV _ _ _ _ (if 0=t then .ag l else _) _;have G:TV _ _ _ _ (if 0=t then _ else _) _:=G
    split
    .rename_i e
     subst e;rw[hF,q3]at B;exact⟨arr,q1,B⟩
    .rename_i e
     rw[if_neg e]at G;exact G
   .exact E.nf k (by rw[hst];exact hk)
  .cases q3
 .by_cases e:k=0
  .subst e
   have hk:lkr T [] 0=some R:=hk;simp only[lkr,T.gl0 0 (by omega)]at hk;cases hk
  .show(if 0=k then _ else _)=some R
   rw[if_neg (fun h=>e h.symm)];exact hk
 .have hk:(if 0=k then _ else _)=some R:=hk
  split at hk
  .cases hk;cases h0
  .exact hk
 .have hr:r ∈ nms (if 0=t then .ag l else _):=hr
  split at hr
  .cases hr
  .rw[jPH]at hr;cases hr
end V
end Go.Proofs.YtnhbcdnmfafbiaaGreatDoor
