import Derived.Test.YtlpmpelnhdoboaaGreatDoorS26
import Derived.Test.YtlpmpelnhdoboaaGreatDoorS28
import Derived.Test.YtlpmpelnhdoboaaGreatDoorS30
import Derived.Test.YtlpmpelnhdoboaaGreatDoorRows
import Derived.ProofKit
import Derived.LaidMore
import Derived.OpenShut
import Derived.Stop.Joined
import Derived.Lib.LaidTab
import Derived.ChangeMaps5
import Derived.ShutString
import Derived.Test.YtlpmpelnhdoboaaGreatDoorTie
import Derived.Test.YtlpmpelnhdoboaaGreatDoorCards
import Derived.SevenTiedAt
set_option linter.unusedVariables false
set_option linter.unusedSimpArgs false
set_option maxHeartbeats 20000000
namespace Go.Proofs.YtlpmpelnhdoboaaGreatDoor
namespace Inf
def Nz (S:DS):Prop:=∀q ∈ S.ns,q.1.size<=1000
variable {S:DS}
theorem Nz.put (h:Nz S) (k:Nat) (xs:List Nat):Nz (S.put k xs):=h
theorem Nz.dem (h:Nz S) (a b:Nat) (p:Int):Nz (S.dem a b p):=h
theorem Nz.bad {S:DS}(h:Nz S) (p:Int):Nz (S.bad p):=h
theorem Nz.note (h:Nz S) {x:ByteArray}(C:x.size<=1000) (p:Int):Nz (S.note x p):=fun q B=>by
 rcases Yq.1 B with B|B
 .exact h q B
 .have:q=(x,S.n,p):=by simpa using B
  subst this;exact C
theorem Nz.each:∀{S:DS}(xs:List ByteArray) (p:Int),(∀x ∈ xs,x.size<=1000)->Nz S->Nz (S.each xs p)
 |S,[],p,_,h=>h
 |S,x ::r,p,hx,h=>by rw[DS.each];exact Nz.each r p (fun y hy=>hx y (Yv _ hy)) (h.note (hx x (by simp)) p)
def NW (x:X):Prop:=∀env S,Nz S->Nz (dW x env S).2
variable {x:X}
theorem NW.p (h:NW x) {env:Env}(k:Nat) (B:Nz S):Nz (dP k x env S):=by
 rw[dP];exact(h env _ (B.put k [])).dem _ _ _
theorem NW.e (h:NW x) {env:Env}(B:Nz S):Nz (dE x env S).2:=by
 rw[dE];exact(((h env S B).put 0 []).put 4 _).dem _ _ _
theorem nws:∀(l:List X),(∀y ∈ l,NW y)->∀env S,Nz S->Nz (dWs l env S).2
 |[],_,env,S,h=>by rw[dWs];exact h
 |x ::l,hl,env,S,h=>by
  rw[dWs];exact nws l (fun y hy=>hl y (Yv _ hy)) env _ (hl x (by simp) env S h)
theorem jEs:∀(n:Nat) (x:X),SizeOf.sizeOf x<=n->WZ x->NW x:=by
 intro n
 induction n with
 |zero=>intro x h;cases x;simp at h
 |succ n ih=>
  intro x hs O env S B
  cases O with
  |@nd k p xs kids h hxx h6 k6 h5 h9 h10 h19 hk=>
   have F:∀y ∈ kids,NW y:=fun y hy=>ih y (by have:=List.sizeOf_lt_of_mem hy;simp at hs;omega) (hk y hy)
   cases h with
   |leaf h=>
    rcases h with rfl|rfl|rfl|rfl|rfl|rfl <;> simp only[dW]
    .exact B.put _ _
    .exact B.put _ _
    .exact B.put _ _
    .exact B.put _ _
    .split
     .exact B
     .exact(B.bad p).put _ _
    .exact B.put _ _
   |@un _ _ a h=>
    have C:=F a (by simp);rcases h with rfl|rfl|rfl|rfl|rfl <;> simp only[dW]
    .exact(C.p 1 B).put _ _
    .exact(C.p 2 B).put _ _
    .exact(C.p 1 B).put _ _
    .exact(C.e B).put _ _
    .exact(C _ _ (B.each xs p hxx)).put _ _
   |@two _ _ a b h=>
    have C:=F a (by simp);have H:=F b (by simp);rcases h with rfl|rfl|rfl|rfl|rfl|rfl|rfl <;> simp only[dW]
    .exact(H.p 1 (C.p 1 B)).put _ _
    .exact(H.p 1 (C.p 1 B)).put _ _
    .exact(H.p 1 (C.p 1 B)).put _ _
    .exact H _ _ (C.p 3 B)
    .exact H _ _ ((C _ _ ((B.each xs p hxx).put 5 _)).dem _ _ _)
    .exact H.p 1 (C.e B)
    .exact(H _ _ (C.p 1 B)).put 4 _
   |@lt _ a b h=>
    simp only[dW];exact F b (by simp) _ _ ((F a (by simp) _ _ (B.each xs p hxx)).dem _ _ _)
   |@rc _ a b h=>
    simp only[dW];exact F b (by simp) _ _ ((F a (by simp) _ _ ((((B.each xs p hxx).put 0 []).put 6 _).dem _ _ _)).dem _ _ _)
   |@three _ _ a b c h=>
    have C:=F a (by simp);have H:=F b (by simp);have I:=F c (by simp);rcases h with rfl|rfl <;> simp only[dW]
    .exact(I _ _ (H _ _ (C.p 2 B))).dem _ _ _
    .exact((I _ _ (H.p 1 (C.e B))).dem _ _ _).put _ _
   |@many _ _ a l h=>
    have K:=nws (a ::l) F env S B;rcases h with rfl|rfl <;> simp only[dW]
    .exact((K.put 0 []).put 6 _).dem _ _ _
    .exact K.put 5 _
theorem nz_text (B:WZ x):Nz (dP 1 x [] S0):=(jEs _ x jN B).p 1 (fun q hq=>by cases hq)
theorem jyB {sz B:Nat->Nat}{tx C:Nat->ByteArray}{φ:Nat->Nat}:∀(l:List (ByteArray × Nat × Int)) (s:ByteArray),(∀q ∈ l,B (φ q.2.1)=sz q.2.1/\C (φ q.2.1)=tx q.2.1)->nmT B C (l.map fun q=>(q.1,φ q.2.1,q.2.2)) s=nmT sz tx l s
 |[],s,_=>rfl
 |(x,t,p) ::r,s,h=>by
  obtain⟨F,H⟩:=h (x,t,p) (by simp);rw[Kt,nmT,nmT,jyB r _ (fun q hq=>h q (Yv _ hq))];simp only at F H;rw[F,H]
theorem nm_same {φ:Nat->Nat}{P:PS}(h:Sim φ S P):nmT (szT P.ts P.D) (txT P.ts P.D) (P.bs.map fun b=>(b.x,b.t,b.p)) ⟨#[]⟩=nmT (szT S.ts (prs S.D)) (txT S.ts (prs S.D)) S.ns ⟨#[]⟩:=by
 rw[<-h.nb];have C:=jxU h;have B:=h.ok;rw[h.D]at B ⊢
 exact jyB _ _ fun q hq=>⟨jBT h.em h.dl h.bS C B (h.nl q hq),jBn h.em h.dl h.bS C B (h.nl q hq)⟩
end Inf
namespace Ip
open Go.RowKit Sl
def LaidI (w:World):Prop:=TX w/\0<w.heap.size
theorem LaidI.below {w w':World}(h:LaidI w) (B:Below w.heap.size w w'):LaidI w':=⟨h.1.below B h.2,Yj h.2 B.size⟩
def jsb (s R:ByteArray) (E A:Int) (w:World):Prop:=∀v,Calls Tryz.prog 6 #[v,.string s] w fun e w'=>juh w R E A e w'
def jsM (s:ByteArray) (E A:Int):Prop:=∀W,Calls Tryz.prog 7 #[.string s] W fun e w'=>∃a,e= .returned (.tuple #[.pointer a,.pointer none,.int .i64 E,.int .i64 A])/\Below W.heap.size W w'
def juj (s R:ByteArray) (E A:Int):Prop:=∀W,Calls Tryz.prog 7 #[.string s] W fun e w'=>∃a cb,e= .returned (.tuple #[.pointer a,.pointer (some ⟨cb,0,none⟩),.int .i64 0,.int .i64 0])/\(Calls Tryz.prog 8 #[.pointer (some ⟨cb,0,none⟩)] w' fun e w2=>e= .returned (.tuple #[.string R,.int .i64 E,.int .i64 A])/\Below w'.heap.size w' w2)/\Below W.heap.size W w'
variable {s:ByteArray}{E A:Int}
set_option maxRecDepth 100000 in
theorem jsU (B:E≠0) (C:∀W,Calls Tryz.prog 12 #[.string s] W fun e w'=>e= .returned (.tuple #[.pointer none,.int .i64 E,.int .i64 A])/\Below W.heap.size W w'):jsM s E A:=fun W=>by
 have K:(E == 0)=false:=by simpa using B
 have I:(E != 0)=true:=by simpa using B
 have H:=jH C;clear C B
 go_enter Tryz.func7,Tryz.ntmps7
 go_wp2_with (go_at_call 12;refine(H.o W).mono ?_;rintro _ O ⟨rfl,F⟩)
 go_returns;exact⟨none,rfl,F⟩
def PTy (s:ByteArray) (Q:World->Ending->World->Prop):Prop:=∀W,Calls Tryz.prog 12 #[.string s] W fun e w'=>∃q,e= .returned (.tuple #[.pointer (some ⟨q,0,none⟩),.int .i64 0,.int .i64 0])/\Calls Tryz.prog 13 #[.pointer (some ⟨q,0,none⟩)] w' (Q w')/\Below W.heap.size W w'
set_option maxRecDepth 100000 in
theorem jBj (K:E≠0) (F:PTy s fun w e w'=>e= .returned (.tuple #[.pointer none,.int .i64 E,.int .i64 A])/\Below w.heap.size w w'):jsM s E A:=fun W=>by
 have O:=jH F;clear F K
 go_enter Tryz.func7,Tryz.ntmps7
 go_wp2_with (first
  |(go_at_call 12;refine(O.o W).mono ?_;rintro _ R ⟨q,rfl,C,B⟩;have I:=jH C;clear C)
  |(go_at_call 13;refine I.o.mono ?_;rintro _ w2 ⟨rfl,H⟩))
 go_returns;exact⟨some ⟨q,0,none⟩,rfl,B.trans (H.mono B.size)⟩
set_option maxRecDepth 100000 in
theorem jBk {R:ByteArray}(H:PTy s fun w e w'=>∃cb,e= .returned (.tuple #[.pointer (some ⟨cb,0,none⟩),.int .i64 0,.int .i64 0])/\(Calls Tryz.prog 8 #[.pointer (some ⟨cb,0,none⟩)] w' fun e w2=>e= .returned (.tuple #[.string R,.int .i64 E,.int .i64 A])/\Below w'.heap.size w' w2)/\Below w.heap.size w w'):juj s R E A:=fun W=>by
 have U:=jH H;clear H
 go_enter Tryz.func7,Tryz.ntmps7
 go_wp2_with (first
  |(go_at_call 12;refine(U.o W).mono ?_;rintro _ Y ⟨q,rfl,F,C⟩;have K:=jH F;clear F)
  |(go_at_call 13;refine K.o.mono ?_;rintro _ w2 ⟨cb,rfl,B,I⟩;have O:=jH B;clear B))
 go_returns;exact⟨some ⟨q,0,none⟩,cb,rfl,O.o,C.trans (I.mono C.size)⟩
theorem juY {l:List Sl.Tok}{w:World}(hs:s.size<=400) (H:lex s (skp s 0)= .good l) (F:LaidI w):SpC s (l ++[jnz s]) w:=fun W hW=>by
 have C:=F.below hW;refine(jxO s hs W C.1 C.2).mono ?_;rw[H];rintro e w' ⟨v,rfl,B,K⟩;have B:w'.ownsRow W.heap.size 90 4 v (l ++[jnz s]).length ((l ++[jnz s]).flatMap Tok.cells):=B
 rcases B.2 with⟨_,I⟩|⟨g,cap,Y,U,I,O,R,_⟩
 .simp at I
 .subst U
  exact⟨g,cap,rfl,R,lt_of_block O,jHN B,K⟩
theorem jF8 {l:List Sl.Tok}{w:World}{q':Q}{n n0:Nat}{x:Int}(hs:s.size<=400) (Y:lex s (skp s 0)= .good l) (hL:LaidI w) (hp:pr (l ++[jnz s]) 12 n .expr q0=some (x,q')) (K:q'.fine) (hE:(q'.want (l ++[jnz s]) 0).S.err=0) (h6:0<q'.ps.length) (he:q'.S.err=0) (hx:x=(q'.ps.length:Int)-1) (hd:(l ++[jnz s]).drop q'.S.next=[jnz s]) (hM:MR 12 n0 [.nt .Expr,.tm 0] (l ++[jnz s]) 0 none) :
 (∃E A:Int,E≠0/\jsb s ⟨#[]⟩ E A w/\jsM s E A)\/(∃R E A,jsb s R E A w/\juj s R E A):=by
 obtain⟨c,I,H,U,hA⟩:=jIf hp he hx hd;have q5:=Py.lex_len Y;have h7:(l ++[jnz s]).length<=402:=by simp;omega
 have k9:=Py.lexF_gd s hs _ _ l Y
 have h8:Pl.smN c:=Pl.sm_of c I (fun t ht hk=>by
  rw[U]at ht;unfold tks at ht;obtain⟨y,hy,e⟩:=Uh.1 ht;have hz:=(k9 y hy).sz;rw[<-e]at hk ⊢;have hk:y.k=2:=hk;show(if y.k=2 then y.t else⟨#[]⟩).size<=1000;rw[if_pos hk]
  exact hz)
 obtain⟨X,O⟩:∃X,Pl.toX c (fL l)=X:=⟨_,rfl⟩
 have hZ:Inf.WZ X:=by rw[<-O];exact Pl.wz_of c _ I H h8
 have k7:Inf.WM1 X:=by rw[<-O];exact Pl.wm_of c _ I
 have hG:Dm.GX (jnh c (fL l)) X:=by rw[<-O];exact Dm.gx_of c _ I H
 have q6:Inf.sz X<=800:=by
  have B:=Pl.sz_of c (fL l) I H;rw[O,U]at B;unfold tks at B;rw[Ua]at B;omega
 rw[O]at hA;obtain⟨φ,h3⟩:=Inf.text_walks (Inf.WZ.wx _ jN hZ);obtain⟨h9,k8⟩:=Inf.hb_of h3
 have F:∀(W:World) (pv:Value),(∃base vs,jnZ W base pv q'.ps vs)->Calls Tryz.prog 10 #[.agg #[pv]] W (Tg.WLP X W):=fun W pv ⟨base,vs,hps⟩=>
  Tg.walk_u (vs:=vs) ⟨jDI hps,by have:=K.2.2.2;omega⟩ (by omega) hA hZ (by omega)
 have q4:∀W q,HT W 0 W.heap.size (.pointer (some ⟨q,0,none⟩)) (jnh c (fL l))->Calls Tryz.prog 13 #[.pointer (some ⟨q,0,none⟩)] W (Dm.TyQ (Inf.dP 1 X [] Inf.S0) W):=fun W q hT=>
  Dm.type_d hT jN hG (by omega) (by omega) rfl h9 k8
 have h0:∀Q:World->Ending->World->Prop,(∀W e w',Dm.TyQ (Inf.dP 1 X [] Inf.S0) W e w'->Q W e w')->PTy s Q:=fun Q hQ W=>by
  refine(Py.parse_ok s hs Y hM I H U W).mono ?_;rintro e w' ⟨q,rfl,hT,C⟩;exact⟨q,rfl,(q4 w' q (hT.wide (Yi _) jN)).mono (fun e w2 h=>hQ w' e w2 h),C⟩
 have h4:=jBB h7 (juY hs Y hL) hp K hE
 rcases h3 with Z|⟨u,p,h5,hF⟩
 .obtain⟨Rt,hRt⟩:∃R,Inf.nmT (Inf.szT (Inf.dP 1 X [] Inf.S0).ts (Inf.prs (Inf.dP 1 X [] Inf.S0).D)) (Inf.txT (Inf.dP 1 X [] Inf.S0).ts (Inf.prs (Inf.dP 1 X [] Inf.S0).D)) (Inf.dP 1 X [] Inf.S0).ns ⟨#[]⟩=R:=⟨_,rfl⟩
  refine .inr ⟨Rt.1,Rt.2.1,Rt.2.2,fun v=>jFJ h4 (fun W pv hW hps=>(F W pv hps).mono ?_),jBk (h0 _ ?_)⟩
  .rintro e w' ⟨C,⟨u,p,B,_⟩|⟨κ,wb,pv',bv,tv,ns,k1,k2,k3,k4,rfl⟩⟩
   .rw[Z.run]at B;cases B
   .obtain⟨a,cp,ev,_⟩:=k1.gm.form
    obtain⟨b,cq,eb,_⟩:=k2.row.any;rw[ev,eb];refine⟨_,_,_,_,_,_,rfl,C,fun V hV=>?_⟩;have:=Tg.namesText_u k1 k2 k3 hV;rw[ev,eb]at this;refine this.mono ?_;rintro e w2 ⟨rfl,k5⟩;refine⟨?_,k5⟩;rw[show(Inf.pP 1 X (-1) Inf.P0).bs.map Tg.tri=(Inf.pP 1 X (-1) Inf.P0).bs.map (fun b=>(b.x,b.t,b.p))from rfl,Inf.nm_same Z,hRt]
  .rintro W e w' ⟨C,⟨E,A,B,_⟩|⟨cb,κ,tv,av,nv,cv,ds,cl,rfl,k1,k2,k3,k4⟩⟩
   .exact(Inf.sim_no Z B).elim
   .refine⟨cb,rfl,?_,C⟩
    rw[<-hRt];exact Dm.names_d k1 k2 (Inf.ar_text hZ k7) (fun q K=>⟨Z.nl q K,Inf.nz_text hZ q K⟩) k4
 .have hE0:Tg.eN u≠0:=by unfold Tg.eN;cases u <;> decide
  refine .inl ⟨Tg.eN u,p,hE0,fun v=>jFI hE0 h4 (fun W pv hW hps=>(F W pv hps).mono ?_),jBj hE0 (h0 _ ?_)⟩
  .rintro e w' ⟨C,⟨u',p',B,rfl⟩|⟨κ,wb,pv',bv,tv,ns,k1,k2,k3,k4,rfl⟩⟩
   .rw[h5]at B
    cases B;exact⟨rfl,C⟩
   .have:=k3.run
    rw[h5]at this;cases this
  .rintro W e w' ⟨C,⟨E,A,B,_,rfl⟩|⟨cb,κ,tv,av,nv,cv,ds,cl,rfl,k1,k2,k3,k4⟩⟩
   .obtain⟨rfl,h2⟩:=Inf.failed_one hF B
    refine⟨?_,C⟩;rcases h2 with⟨rfl,rfl⟩|⟨rfl,rfl⟩ <;> rfl
   .exact(Inf.failed_no hF k3 k2.ok).elim
theorem both (s:ByteArray) (hm:s.size<=maxLen) (w:World) (H:LaidI w):(∃E A:Int,E≠0/\jsb s ⟨#[]⟩ E A w/\jsM s E A)\/(∃R E A,jsb s R E A w/\juj s R E A):=by
 by_cases h4:400<s.size
 .refine .inl ⟨1,0,by omega,fun v=>jtE (by omega) (fun W hW=>jxo (by omega) (fun W2 hW2=>?_)),jsU (by omega) (fun W=>?_)⟩
  .refine(jB3 s h4 hm W2).mono ?_
   rintro e w' ⟨rfl,rfl⟩;exact⟨rfl,jB⟩
  .refine(Py.parse_long s h4 hm W).mono ?_
   rintro e w' ⟨rfl,rfl⟩;exact⟨rfl,jB⟩
 have hs:s.size<=400:=by omega
 cases hl :lex s (skp s 0) with
 |bad e p=>
  have k2:=Py.lexF_bad _ _ _ _ _ hl;have he:((e:Nat):Int)≠0:=by omega
  refine .inl ⟨e,p,he,fun v=>jtE he (fun W hW=>jxo he (fun W2 hW2=>?_)),jsU he (fun W=>Py.parse_lex s hs hl W)⟩;have h0:=(H.below hW).below hW2;refine(jxO s hs W2 h0.1 h0.2).mono ?_;rw[hl];rintro e w' ⟨v,rfl,Z,hb⟩;have Z:v= .slice none 0 0:=Z;subst Z;exact⟨rfl,hb⟩
 |good l=>
  have h3:=Py.lexF_gd s hs _ _ l hl;have k7:=Py.lex_len hl;have B:(l ++[jnz s]).length<=402:=by simp;omega
  have F:Sl.Ends (l ++[jnz s]):=⟨l,jnz s,rfl,rfl⟩
  obtain⟨res,I,k1⟩:=tot 12 _ .expr (l ++[jnz s]) 0 F (Nat.lt_succ_self _);obtain⟨n,x,q',hp,hq,h7,h6,h8⟩:=jD3 B F I
  cases res with
  |bad e p=>
   obtain⟨he,O,hA⟩:=h7 e p rfl;obtain⟨n0,U⟩:=(jqj I trivial).2 e p rfl [.tm 0];have C:((e:Nat):Int)≠0:=by omega
   exact .inl ⟨e,p,C,fun v=>jtE C (fun W hW=>jxp B (juY hs hl (H.below hW)) hp hq O hA C),jsU C (fun W=>Py.parse_bad s hs hl U W)⟩
  |ok v l' o'=>
   obtain⟨he,_,_⟩:=k1 v l' o' rfl;obtain⟨t,r,rfl⟩:=he.ne;obtain⟨u,hu,c,Z,hw,_,k8,k4⟩:=jtB I trivial v (t ::r) o' rfl
   by_cases hk:t.k=0
   .have hr:r=[]:=by
     cases r with
     |nil=>rfl
     |cons y r=>
      exfalso;have Y:=congrArg List.length hu;simp at Y;have K:(l ++[jnz s])[u.length]? =some t:=by rw[hu];simp
      rw[Kb (by omega)]at K;exact(h3 t (Yo K)).ne hk
    subst hr
    have h9:u=l/\t=jnz s:=by
     have K:=List.append_inj' hu rfl;exact⟨K.1.symm,by simpa using K.2.symm⟩
    obtain⟨rfl,rfl⟩:=h9;obtain⟨n0,U⟩:=(jqj I trivial).1 v [jnz s] o' rfl 1 [.tm 0] none (MR.tm hk (by decide) (by decide) (by decide) (MR.nil [] o'));obtain⟨O,h1,c2,k5,hR,_,hx,h2,hd⟩:=h8 v (jnz s) [] o' rfl he hk;exact jF8 hs hl H hp hq O h1 h2 hx hd U
   .obtain⟨O,hA⟩:=h6 v t r o' rfl he hk
    obtain⟨n0,U⟩:=(jqj I trivial).1 v _ o' rfl 1 [.tm 0] _ (MR.tmBad (k:=0) hk);exact .inl ⟨4,t.p,by omega,fun v=>jtE (by omega) (fun W hW=>jxp B (juY hs hl (H.below hW)) hp hq O hA (by omega)),jsU (by omega) (fun W=>Py.parse_bad s hs hl U W)⟩
end Ip
namespace Ip
open Go.RowKit Sl
def jug (w:World) (e:Ending) (w':World):Prop:=e= .returned (.bool true)/\Below w.heap.size w w'
variable {s:ByteArray}{w:World}{v:Value}
set_option maxRecDepth 100000 in
theorem jFG {E A:Int}(H:E≠0) (C:jsb s ⟨#[]⟩ E A w) (F:jsM s E A) :
 Calls Tryz.prog 5 #[v,.string s] w fun e w'=>jug w e w':=by
 have U:(E == 0)=false:=by simpa using H
 have O:=jH C;have R:=jH F;clear C F H
 go_enter Tryz.func5,Tryz.ntmps5
 go_wp2_with (first
  |(go_at_call 6;refine(O.o v).mono ?_;rintro _ K ⟨rfl,B⟩)
  |(go_at_call 7;refine(R.o K).mono ?_;rintro _ w2 ⟨a,rfl,I⟩))
 go_ret;exact⟨rfl,B.trans (I.mono B.size)⟩
set_option maxRecDepth 100000 in
theorem jFD {R:ByteArray}{E A:Int}(H:jsb s R E A w) (I:juj s R E A) :
 Calls Tryz.prog 5 #[v,.string s] w fun e w'=>jug w e w':=by
 have W:=jH H;have Y:=jH I;clear H I
 go_enter Tryz.func5,Tryz.ntmps5
 go_wp2_with (first
  |(go_at_call 6;refine(W.o v).mono ?_;rintro _ U ⟨rfl,B⟩)
  |(go_at_call 7;refine(Y.o U).mono ?_;rintro _ w2 ⟨a,cb,rfl,C,F⟩;have K:=jH C;clear C)
  |(go_at_call 8;refine K.o.mono ?_;rintro _ w3 ⟨rfl,O⟩))
 go_ret;exact⟨rfl,(B.trans (F.mono B.size)).trans (O.mono (Ym B.size F.size))⟩
theorem jFH (F:s.size<=maxLen) (H:LaidI w):Calls Tryz.prog 5 #[v,.string s] w fun e w'=>jug w e w':=by
 rcases both s F w H with⟨E,A,I,C,B⟩|⟨R,E,A,C,B⟩
 .exact jFG I C B
 .exact jFD C B
set_option maxRecDepth 100000 in
theorem jEy (w:World):Calls Tryz.prog 4 #[] w fun e w'=>∃v,e= .returned v/\Below w.heap.size w w':=by
 go_enter Tryz.func4,Tryz.ntmps4
 go_wp2
 go_ret;exact⟨_,rfl,jB.alloc jN _⟩
set_option maxRecDepth 100000 in
theorem law_any (B:s.size<=maxLen) (C:LaidI w):Calls Tryz.prog 3 #[.string s] w fun e w'=>jug w e w':=by
 have H:=jH B;have I:=jH C;have K:s.size<=9223372036854775807:=by unfold maxLen at B;omega
 clear B C
 by_cases F:1073741824<s.size
 .have hd:decide ((s.size:Int) >1073741824)=true:=by simp;omega
  go_enter Tryz.func3,Tryz.ntmps3
  go_wp2_with fail
  go_ret;exact⟨rfl,jB⟩
 .have hd:decide ((s.size:Int) >1073741824)=false:=by simp;omega
  go_enter Tryz.func3,Tryz.ntmps3
  go_wp2_with (first
   |(go_at_call 4;refine(jEy w).mono ?_;rintro _ O ⟨v,rfl,A⟩)
   |(go_at_call 5;refine(jFH (v:=v) H.o (I.o.below A)).mono ?_;rintro _ w2 ⟨rfl,E⟩))
  go_ret;exact⟨rfl,A.trans (E.mono A.size)⟩
end Ip
section
open Go.ChangeShapes Go.WideShapes Go.ChangeAt Go.WideMaps Go.WideElems Go.ChangeMaps Go.RowKit Sl
theorem own:ownKnob Tryz.prog.godebug=none:=by kernel_rfl
theorem gN:Tryz.prog.globalNamed "slim/words.texts"=some 0:=by kernel_rfl
theorem tN:(Tryz.prog.globals[0]?).map (·.type)=some 148:=by kernel_rfl
theorem uN:Tryz.prog.underlying 148=some (.array 35 9):=by kernel_rfl
theorem cS:Tryz.prog.cellsOf 9=1:=by kernel_rfl
theorem jBm:∀i:Fin 35,jq6[i.val]? =some (jq6.getD i.val []):=by decide
theorem jFj:(Rows.laid_slim_words_texts:DataW Unit)= .agg (jq6.map fun l=>.lit (.string l)):=rfl
theorem jlV {H:Type}{enc:TypeId × Value->H}{P:Program}{w:World}{base:Nat}{sp:Nat->Bool}{held:Bool}{fuel:Nat}{t e:TypeId}{n:Nat}{B:List Value}{A:List (List UInt8)}{p:List MemPlace}
 (ht:P.underlying t=some (.array n e)) (he:P.underlying e=some .string) (C:P.cellsOf e=1) (h:DataW.trod enc P w base sp held fuel t B=some (.agg (A.map fun l=>.lit (.string l)),p)) :
 ∀i l,i<n->A[i]? =some l->B[i]? =some (.string ⟨l.toArray⟩):=by
 intro i l hi U;obtain⟨xs,m,_,W,_,Z,O⟩:=DataW.trod_array ht h
 have K:A.map (fun l=>(DataW.lit (.string l):DataW H))=xs.map (·.1):=by
  have:=congrArg Prod.fst W;simpa using this
 have R:=O i hi;rw[C,Nat.mul_one,Yb (by omega)]at R;obtain⟨s,F,I,_⟩:=DataW.trod_string he R
 have Y:B[i]? =some (.string s):=by
  have:=congrArg (·[0]?) F;simpa[List.getElem?_take,List.getElem?_drop] using this
 have E:(A.map (fun l=>(DataW.lit (.string l):DataW H)))[i]? =some (.lit (.string l)):=by simp[U]
 rw[K,Yr,Yb (by omega),I]at E;simp only[Option.map_some,Option.some.injEq,DataW.lit.injEq,Lit.string.injEq]at E;rw[Y,<-E]
theorem jic {W:World}(h:laidMetH Tryz.prog Rows.inferredRow.laid W):Ip.LaidI W:=by
 rw[MakeChecks.laidMetH_plain _ _ _ (by kernel_rfl)]at h;obtain⟨ps,⟨g3,Z,E,f3,Y,q3,B,F,I,A,_,_⟩,_⟩:=h;obtain rfl:=Uf (gN.symm.trans B);obtain rfl:=Uf (tN.symm.trans F);rw[jFj]at A
 have H:∀i,i<35->W.cell? ⟨0,i,none⟩=some (.string (txt i)):=fun i hi=>by
  have O:=World.var?_cell B I i;have U:=jlV uN Tryz.underlying9 cS A i (jq6.getD i []) hi (jBm ⟨i,hi⟩);have K:E.toList[i]? =some (.string (txt i)):=U;rw[O];simpa using K
 have R:0<W.heap.size:=by
  have:=H 0 (by omega);unfold World.cell? at this;rcases Kg 0 W.heap.size with C|C
  .exact C
  .rw[Array.getElem?_eq_none (by show W.heap.size<=0;omega)]at this;cases this
 exact⟨H,R⟩
theorem jkT (os:Os) (args:Array Value):laidMetH Tryz.prog Rows.inferredRow.laid ((World.doorLaid Tryz.prog 14 os).forCall (fun _ _=>0) ⟨#[],args,[]⟩).memory:=
 laidMetH_of_parts3 (fuel:=8) (laidMet_of_run' 8 (by kernel_rfl) (by kernel_rfl)) (by kernel_rfl) (by kernel_rfl)
set_option maxRecDepth 100000 in
theorem lifted (os:Os) (A:os.Started) (H:Type) (enc:TypeId × Value->H) :
 ReturnsInHanded {} Tryz.checked os 3 .any (fun w args=>(Rows.inferredSpec.pre enc Tryz.prog Tryz.f3 [] false w args/\laidMetH Tryz.prog Rows.inferredRow.laid w)/\sizedMet enc Tryz.prog Tryz.f3 (OpenSpec.ofChange Rows.inferredSpec) false w args)
  (Rows.inferredSpec.post enc Tryz.prog Tryz.f3 false true false false):=by
 refine returnsInHanded_of_change_and (C:=Tryz.checked) (X:=fun w _=>laidMetH Tryz.prog Rows.inferredRow.laid w) (fun _ _ _ hh h=>h.of_heap hh) own A (by kernel_rfl) Tryz.func3
  (ChangeSpec.witness_shaped (enc:=enc) (C:=Tryz.checked) (os:=os) (X:=fun w _=>laidMetH Tryz.prog Rows.inferredRow.laid w) false (World.doorLaid Tryz.prog 14 os) #[.string ⟨#[]⟩] 8 rfl (World.shaped_of_RefB (by kernel_rfl) (by kernel_rfl)) (by kernel_rfl) (by kernel_rfl) (by kernel_rfl) (jkT os _)) ?_
 intro W base args ds gs R B U _ _ hL _;have E:∀(j:Nat) t v,Tryz.f3.params[j]? =some t->args[j]? =some v->Value.okWide Tryz.prog W .any base t v:=B;have F:=U;obtain⟨p,q,I,hV,rfl,h1,h2⟩:=U;have Y:DataW.TrodAll enc Tryz.prog W 0 (fun _=>true) true Tryz.f3.params.toList args.toList ds p:=I;rw[Tryz.params3]at Y E;obtain⟨Z,d0,rfl,rfl,h0⟩:=trodAll_one Y;obtain⟨rfl,rfl⟩:=trodVars_none hV;obtain⟨s,rfl,rfl,rfl,O⟩:=open_string Tryz.underlying9 (E 0 9 Z rfl rfl) h0;have hl:=jic hL;clear I B;simp only[Kd]at F;refine(Ip.law_any O hl).mono fun e W' ⟨he,hb⟩=>?_;subst he;have K:Rows.inferredSpec.fn H ([.lit (.string s.data.toList)] ++[])={results:=[.lit (.bool true)],args:=[.lit (.string s.data.toList)]}:=by simp[Rows.inferredSpec]
 refine⟨_,rfl,_,_,_,[],[],[],F,?_,?_,?_,hb.frame _,fun h=>by cases h⟩
 .rw[K];exact trodAll_mk1 (shut_bool Tryz.underlying4 true)
 .rw[K];exact trodAll_mk1 (shut_string Tryz.underlying9 O)
 .rw[K];rfl
end
section
open Go
theorem inferred_holds:Rows.InferredSaid:=
 OpenClaim.holds_of_wide 3 Tryz.f3 rfl rfl rfl rfl rfl rfl rfl ⟨rfl,rfl,rfl,rfl,rfl⟩ rfl rfl rfl rfl rfl (by as_aux_lemma=>kernel_rfl) Tryz.func3 jFE
  (of_decide_eq_true (by as_aux_lemma=>kernel_rfl)) (by unfold Func.isWrapper;first|(rw[if_pos (by decide +kernel)];kernel_rfl)|(rw[if_neg (by decide +kernel)];exact⟨rfl,rfl⟩))
  (fun os started H enc _=>lifted os started H enc)
theorem inferred_card:Rows.InferredCardSaid:=
 Claim7.holds_tied_plain_at .later [] [.data] true Rows.inferredCard.stood.harness false
  inferred_holds (fun _ h=>by cases h) (by as_aux_lemma=>kernel_rfl) (fun _ h=>by cases h) inferred_row_tie rfl ⟨rfl,rfl⟩ (by as_aux_lemma=>kernel_rfl) rfl
  (fun f fn hf hfn=>by
   obtain rfl:f=3:=Uf ((show Tryz.prog.funcNamed "slim/slimlaw.Inferred"=some 3 by as_aux_lemma=>kernel_rfl).symm.trans hf) |>.symm;obtain rfl:fn=Tryz.f3:=(Uf (Tryz.func3.symm.trans hfn)).symm
   exact⟨by as_aux_lemma=>kernel_rfl,fun j t ht=>by
    rw[Tryz.params3]at ht;have B:t ∈ [9]:=by simpa using Array.mem_of_getElem? ht
    have A:([9].all fun u=>!Tryz.prog.wantsStandIn u)=true:=by as_aux_lemma=>kernel_rfl
    exact(show Tryz.prog.wantsStandIn t=false by simpa using List.all_eq_true.1 A t B)⟩)
  (by as_aux_lemma=>kernel_rfl)
#print axioms inferred_card
end
end Go.Proofs.YtlpmpelnhdoboaaGreatDoor
