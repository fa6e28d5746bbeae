import Derived.Test.YtlpmpelnhdoboaaGreatDoorS15
import Derived.Test.YtlpmpelnhdoboaaGreatDoorS18
set_option linter.unusedVariables false
set_option linter.unusedSimpArgs false
set_option maxHeartbeats 20000000
namespace Go.Proofs.YtlpmpelnhdoboaaGreatDoor
section
open Go.RowKit Sl
def Res (c:T) (L:List Tok):Prop:=(∀p,TG 0 p L (jnh c (fL L)))/\(6<=rkT c->TG 2 (jm7 L 0).p L (jnh c (fL L)))
variable {L:List Tok}
theorem joF {m:Nat}{p:Int}{g C:G}(h:TG m p L g) (e:g=C):TG m p L C:=e ▸ h
theorem jpf (h:∀t ∈ L,gd t) (i j:Nat):∀t ∈ jm4 L i j,gd t:=fun t ht=>h t (List.mem_of_mem_drop (List.mem_of_mem_take ht))
theorem jpI (h:∀t ∈ L,gd t) (i:Nat):∀t ∈ L.drop i,gd t:=fun t ht=>h t (List.mem_of_mem_drop ht)
variable {c:T}
theorem jpg (C:wf c):dep 0 (fl c)=some 0:=(jnN c (jnD c C)).dep 0
theorem jqC (C:wf c):fl c≠[]:=(jnN c (jnD c C)).ne
theorem jn8 (C:wf c):1<=(fl c).length:=by
 have:=jqC C
 cases h :fl c with
 |nil=>exact absurd h this
 |cons t r=>simp
theorem z26 (F:tks L=fl c) (C:wf c) (E:1<=rkT c):spl 26 L=0:=js6 F (jpg C) (by rw[jzu];exact jyy C E 0 0)
theorem z27 (F:tks L=fl c) (C:wf c) (E:2<=rkT c):spl 27 L=0:=js6 F (jpg C) (by rw[jzt];exact jvz C E 0 0)
theorem z30 (H:tks L=fl c) (E:wf c) (C:c.k≠25) (F:3<=rkT c):spl 30 L=0:=js6 H (jpg E) (by rw[jzs];exact jyx _ c jN E C F 0 0 (.inr rfl))
theorem z32 (F:tks L=fl c) (C:wf c) (E:4<=rkT c):spl 32 L=0:=js6 F (jpg C) (by rw[jzr];exact jyz C E 0 0)
theorem jrl (C:tks L=fl c) (E:wf c):0<L.length:=by
 have:=jn8 E;rw[<-C,jon]at this;exact this
theorem jwC {g:G}(E:wf c) (F:c.k≠25) (U:5<=rkT c) (C:tks L=fl c) (h:TG 1 (jm7 L 0).p L g) (p:Int):TG 0 p L g:=by
 obtain⟨⟨K,O,R⟩,W,_⟩:=jro _ c jN E F (by omega);obtain⟨H,I⟩:=W U;rw[<-jrp C]at K O R H I;exact .ca K O R H I (z26 C E (by omega)) (z27 C E (by omega)) (z30 C E F (by omega)) (z32 C E (by omega)) (jrl C E) h
theorem jEr {g:G}(E:wf c) (C:c.k≠25) (I:6<=rkT c) (F:tks L=fl c) {p:Int}(h:TG 2 p L g):TG 1 p L g:=by
 obtain⟨_,_,K⟩:=jro _ c jN E C (by omega);have H:=K I;rw[<-jrp F]at H;have:=jyn (hs:=[]) F (jpg E) (jti _ c jN E C I 0 0) (by simp);exact .o1 H (jrl F E) (by rw[this];rfl) h
theorem jva (E:wf c) (C:c.k≠25) (H:6<=rkT c) (F:tks L=fl c) (h:TG 2 (jm7 L 0).p L (jnh c (fL L))):Res c L:=
 ⟨fun p=>jwC E C (by omega) F (jEr E C H F h) p,fun _=>h⟩
theorem jpd (C:rkT c<6) (h:∀p,TG 0 p L (jnh c (fL L))):Res c L:=⟨h,fun h6=>by omega⟩
def cp:Nat->List T->List Nat
 |_,[]=>[]
 |e,c ::r=>e ::cp (e+1+(fl c).length) r
theorem jz4 (s:Nat):∀(r:List T) (j i p:Nat),(∀c ∈ r,wf c/\c.k≠25)->pos (fun _ k=>k == 25) 0 p i (flk 7 s (j+1) r)=cp i r
 |[],j,i,p,_=>rfl
 |c ::r,j,i,p,h=>by
  have C:=h c (by simp);rw[flk,cp,show sep 7 s (j+1)=[Tk.of 25] from rfl,List.singleton_append,jqf _ (by decide) (by decide) (by decide),(jnN c (jnD c C.1)).pos,jvy C.1 (fun e=>absurd e C.2) _ _,jz4 s r (j+1) _ _ (fun d hd=>h d (by simp[hd]))];simp[Tk.of]
theorem jq7 {x y:List Tk}:(x ++y).take x.length=x:=by simp
theorem tup (L:List Tok) (E:∀t ∈ L,gd t) (s:Nat):∀(r:List T) (c0:T) (f j:Nat),wf c0->tks (L.drop f)=fl c0 ++flk 7 s (j+1) r->(∀c ∈ c0 ::r,∀L',tks L'=fl c->(∀t ∈ L',gd t)->Res c L')->(∀c ∈ r,wf c)->
 ∃gs g,TGs 0 ((cms f (cp (f+(fl c0).length) r)).1.map (fun q=>jm4 L q.1 q.2)) gs/\TG 0 0 (L.drop (cms f (cp (f+(fl c0).length) r)).2) g/\gs ++[g]=jnh c0 (fun i=>fL L (f+i)) ::jnp 7 s (j+1) r (fun i=>fL L (f+(fl c0).length+i))/\(cms f (cp (f+(fl c0).length) r)).2<L.length/\f<=(cms f (cp (f+(fl c0).length) r)).2/\(r≠[]->f<(cms f (cp (f+(fl c0).length) r)).2)
 |[],c0,f,j,hw0,hL,hR,_=>by
  rw[flk,Kd]at hL;have C:=(hR c0 (by simp) (L.drop f) hL (jpI E f)).1 0;rw[jpR hw0]at C;have K:=jrl hL hw0;rw[Ys]at K;refine⟨[],_,.nil,C,?_,?_,jN,fun h=>absurd rfl h⟩
  .rw[jnp];rfl
  .show f<L.length;omega
 |c1 ::r,c0,f,j,hw0,hL,hR,hw=>by
  have Y:=hL;rw[flk,show sep 7 s (j+1)=[Tk.of 25] from rfl,List.singleton_append]at hL
  have H:(L.drop f).length=(fl c0).length+(1+((fl c1).length+(flk 7 s (j+1+1) r).length)):=by
   rw[<-jon,hL];simp;omega
  rw[Ys]at H;have Z:=jn8 hw0
  have hcut:tks (jm4 L f (f+(fl c0).length))=fl c0:=by
   rw[jpY,<-joE,hL,Nat.add_sub_cancel_left,jq7]
  have F:tks (L.drop (f+(fl c0).length+1))=fl c1 ++flk 7 s (j+1+1) r:=by
   rw[show f+(fl c0).length+1=f+((fl c0).length+1) by omega,<-List.drop_drop,joE,hL];simp
  obtain⟨gs,g,U,R,W,O,I,i6⟩:=tup L E s r c1 (f+(fl c0).length+1) (j+1) (hw c1 (by simp)) F (fun c hc=>hR c (by simp at hc ⊢;exact .inr hc)) (fun c hc=>hw c (by simp[hc]));have C:=(hR c0 (by simp) _ hcut (jpf E _ _)).1 (jm7 (jm4 L f (f+(fl c0).length)) 0).p;rw[jpo hw0 hcut]at C;refine⟨(jnh c0 fun i=>fL L (f+i)) ::gs,g,?_,R,?_,O,?_,fun _=>?_⟩
  .exact .cons (by rw[<-jon,hcut];omega) C U
  .rw[Ka,W,jnp,show(sep 7 s (j+1)).length=1 from rfl]
   congr 2
   .exact jzA fun i=>by congr 1;omega
   .congr 1
    funext i
    congr 1
    omega
  .have:=I;show f<=(cms (f+(fl c0).length+1) _).2;omega
  .have:=I;show f<(cms (f+(fl c0).length+1) _).2;omega
def st:Nat->List T->List Nat
 |_,[]=>[]
 |i,c ::r=>i ::st (i+(fl c).length) r
theorem jxJ {k s:Nat}(C:∀i,sep k s i=[]):∀(r:List T) (j i p:Nat),(∀c ∈ r,wf c/\c.k≠25/\6<=rkT c)->pos jpe 0 p i (flk k s j r)=st i r
 |[],j,i,p,_=>rfl
 |c ::r,j,i,p,h=>by
  have E:=h c (by simp);rw[flk,st,C,Yx,(jnN c (jnD c E.1)).pos,jti _ c jN E.1 E.2.1 E.2.2,jxJ C r (j+1) _ _ (fun d hd=>h d (by simp[hd]))];rfl
theorem ops {k s:Nat}(E:∀i,sep k s i=[]) (L:List Tok) (K:∀t ∈ L,gd t):∀(r:List T) (c0:T) (f j:Nat),tks (L.drop f)=fl c0 ++flk k s (j+1) r->(∀c ∈ c0 ::r,wf c/\6<=rkT c/\∀L',tks L'=fl c->(∀t ∈ L',gd t)->Res c L')->
 TGs 2 ((prs f (st (f+(fl c0).length) r) L.length).map (fun q=>jm4 L q.1 q.2)) (jnh c0 (fun i=>fL L (f+i)) ::jnp k s (j+1) r (fun i=>fL L (f+(fl c0).length+i)))
 |[],c0,f,j,hL,hR=>by
  rw[flk,Kd]at hL;obtain⟨C,F,I⟩:=hR c0 (by simp);have W:=jrl hL C
  have hcut:tks (jm4 L f L.length)=fl c0:=by
   rw[jpY,<-joE,hL,Yw];rw[<-hL,jon,Ys];omega
  have H:=(I _ hcut (jpf K _ _)).2 F;rw[jpo C hcut]at H;rw[jnp];exact .cons (by rw[<-jon,hcut];exact jn8 C) H .nil
 |c1 ::r,c0,f,j,hL,hR=>by
  obtain⟨C,F,I⟩:=hR c0 (by simp);rw[flk,E,Yx]at hL
  have hcut:tks (jm4 L f (f+(fl c0).length))=fl c0:=by
   rw[jpY,<-joE,hL,Nat.add_sub_cancel_left,jq7]
  have O:tks (L.drop (f+(fl c0).length))=fl c1 ++flk k s (j+1+1) r:=by
   rw[<-List.drop_drop,joE,hL];simp
  have R:=ops E L K r c1 (f+(fl c0).length) (j+1) O (fun c hc=>hR c (by simp at hc ⊢;exact .inr hc));have H:=(I _ hcut (jpf K _ _)).2 F;rw[jpo C hcut]at H;rw[jnp,E];have e:(jnh c1 fun j=>fL L (f+(fl c0).length+(([]:List Tk).length+j)))=jnh c1 fun i=>fL L (f+(fl c0).length+i):=jzA fun i=>by simp
  have U:(jnp k s (j+1+1) r fun j=>fL L (f+(fl c0).length+(([]:List Tk).length+((fl c1).length+j))))=jnp k s (j+1+1) r fun i=>fL L (f+(fl c0).length+(fl c1).length+i):=by congr 1;funext i;congr 1;simp;omega
  rw[e,U];exact .cons (by rw[<-jon,hcut];exact jn8 C) H R
theorem jx8:∀(hs:List Nat) (f e:Nat),(prs f hs e).length=hs.length+1
 |[],_,_=>rfl
 |h ::r,f,e=>by rw[prs,Yk,jx8 r];rfl
theorem jxK:∀(r:List T) (i:Nat),(st i r).length=r.length
 |[],_=>rfl
 |c ::r,i=>by rw[st,Yk,jxK r];rfl
theorem jxL:∀(r:List T) (i:Nat),∀h ∈ st i r,i<=h
 |[],_,h,C=>by simp[st]at C
 |c ::r,i,h,C=>by
  rw[st,Kk]at C;rcases C with rfl|C
  .exact jN
  .have:=jxL r _ h C;omega
variable {k s:Nat}{c0:T}{r:List T}
theorem jyp (C:∀i,sep k s i=[]) {j:Nat}(H:tks L=fl c0 ++flk k s (j+1) r) (F:dep 0 (tks L)=some 0) (h:∀c ∈ c0 ::r,wf c/\c.k≠25/\6<=rkT c):opL L=prs 0 (st (fl c0).length r) L.length:=by
 have E:=h c0 (by simp);refine jyn rfl F ?_ (fun x hx=>?_)
 .rw[H,(jnN c0 (jnD c0 E.1)).pos,jti _ c0 jN E.1 E.2.1 E.2.2,jxJ C r (j+1) _ _ (fun d hd=>h d (by simp[hd])),Kc]
  rfl
 .have:=jxL r _ x hx
  have:=jn8 E.1;omega
theorem jtF (l:List Tok):jns l=((tks l).filter (fun t=>t.k == 2)).map Tk.x:=by
 induction l with
 |nil=>rfl
 |cons t r ih=>
  rw[jzm];show _=(List.filter _ (t.tk ::tks r)).map Tk.x
  by_cases h:t.k=2
  .rw[if_pos h,List.filter_cons_of_pos (by simp[Tok.tk,h]),Kt,ih]
   simp[Tok.tk,h]
  .rw[if_neg h,List.filter_cons_of_neg (by simp[Tok.tk,h]),ih]
theorem jzk (xs:List ByteArray):((xs.map jnb).filter (fun t=>t.k == 2)).map Tk.x=xs:=by
 induction xs with
 |nil=>rfl
 |cons x r ih=>rw[Kt,List.filter_cons_of_pos (by simp[jnb]),Kt,ih];rfl
theorem jzl:∀(xs:List ByteArray),((jnt xs).filter (fun t=>t.k == 2)).map Tk.x=xs
 |[]=>rfl
 |[x]=>rfl
 |x ::y ::r=>by
  rw[jnt,List.filter_cons_of_pos (by simp[jnb]),List.filter_cons_of_neg (by simp[Tk.of]),Kt,jzl (y ::r)];rfl
variable {op n:Nat}{t:Tk}
theorem jsr {cl:Nat}{u r:List Tk}(C:joc op cl u) (ht:t.k=cl) (E:n=0):mt op cl n (u ++t ::r)=u.length:=by
 subst E;rw[C,Sl.mt,if_pos ht,if_pos rfl];rfl
theorem jsC {cl:Nat}(xs:List ByteArray) (E:op≠2) (C:cl≠2):joc op cl (xs.map jnb):=jo8 fun t ht=>by
 have:=jto xs t ht;omega
theorem jz7:∀(xs:List ByteArray),∀t ∈ jnt xs,t.k=2\/t.k=25
 |[],t,ht=>by simp[jnt]at ht
 |[x],t,ht=>by simp[jnt]at ht;subst ht;exact .inl rfl
 |x ::y ::r,t,ht=>by
  rw[jnt,Kk,Kk]at ht;rcases ht with rfl|rfl|ht
  .exact .inl rfl
  .exact .inr rfl
  .exact jz7 (y ::r) t ht
theorem jwp {cl:Nat}(C:t.k≠op) (E:t.k≠cl):joc op cl [t]:=jo8 (by simp;exact⟨C,E⟩)
theorem jsA {cl:Nat}(C:Pair op cl) (E:wf c):joc op cl (fl c):=jGM C _ c jN (jnD c E)
variable {A B:List Tk}
theorem jvJ {u:List Tk}{t0:Tk}(C:tks L=t0 ::(u ++Tk.of 27 ::(A ++Tk.of 5 ::B))) (F:joc 99 27 u) (E:joc 3 5 u) (H:joc 3 5 A) :
 mtL L 1 99 27=u.length+1/\mtL L 1 3 5=u.length+1+1+A.length/\tks (jm4 L 1 (u.length+1))=u/\tks (jm4 L (u.length+1+1) (u.length+1+1+A.length))=A/\tks (L.drop (u.length+1+1+A.length+1))=B/\L.length=u.length+A.length+B.length+3:=by
 have hd:tks (L.drop 1)=u ++Tk.of 27 ::(A ++Tk.of 5 ::B):=by rw[joE,C];rfl
 refine⟨?_,?_,?_,?_,?_,?_⟩
 .unfold mtL;rw[hd,jsr F rfl rfl];omega
 .unfold mtL
  rw[hd,show u ++Tk.of 27 ::(A ++Tk.of 5 ::B)=(u ++([Tk.of 27] ++A)) ++Tk.of 5 ::B by simp,jsr (jn9 E (jn9 (jwp (by decide) (by decide)) H)) rfl rfl];simp;omega
 .rw[jpY,<-joE,hd,Nat.add_sub_cancel,jq7]
 .rw[jpY,C,Nat.add_sub_cancel_left]
  simp
 .rw[joE,C,show t0 ::(u ++Tk.of 27 ::(A ++Tk.of 5 ::B))=((t0 ::u) ++Tk.of 27 ::A ++[Tk.of 5]) ++B by simp]
  refine List.drop_left' ?_;simp;omega
 .rw[<-jon,C];simp;omega
theorem kd1 {t0 C:Tk}{r:List Tk}(h:tks L=t0 ::C ::r):jD L 1=C.k:=jy3 (x:=[t0]) h
variable {b':Nat}{a b:T}
theorem jDs {x:ByteArray}(I:b'=0) (R:tks L=fl (.nd b' 8 s n [x] [a,b])) (K:∀t ∈ L,gd t) (Y:∀L',tks L'=fl a->(∀t ∈ L',gd t)->Res a L') (O:∀L',tks L'=fl b->(∀t ∈ L',gd t)->Res b L') (F:wf a) (wb:wf b) :
 ∀p,TG 0 p L (jnh (.nd b' 8 s n [x] [a,b]) (fL L)):=by
 subst I;intro p;have E:tks L=Tk.of 3 ::([jnb x] ++Tk.of 27 ::(fl a ++Tk.of 5 ::fl b)):=by rw[R];simp[fl,pre,flk,sep,post]
 obtain⟨h1,h2,h3,W,h5,h6⟩:=jvJ E (jsC [x] (by decide) (by decide)) (jsC [x] (by decide) (by decide)) (jsA (.inl ⟨rfl,rfl⟩) F);have Z:=(Y _ W (jpf K _ _)).1 0;rw[jpo F W]at Z;have U:=(O _ h5 (jpI K _)).1 0;rw[jpR wb]at U;have C:jns (jm4 L 1 ([jnb x].length+1))=[x]:=by rw[jtF,h3];rfl
 have la:=jn8 F;have lb:=jn8 wb;have H:jD L 1=2:=kd1 (by rw[E];rfl);refine joF (TG.lt (jpn E) h1 h2 (by simp) (by simp;omega) (by rw[h6];simp;omega) (by simp;omega) (by rw[C];simp) (by rw[H];omega) (by rw[H];omega) Z U) ?_;rw[C];simp[fl,flk,post,jnh,jnp,joj,gAt,pw,pwH,jow,pre,sep,jn2,txs,fL,Ks,Kj,Ku]
variable {xs:List ByteArray}
theorem jDp (H:b'=0) (Y:2<=xs.length) (O:tks L=fl (.nd b' 9 s n xs [a,b])) (I:∀t ∈ L,gd t) (W:∀L',tks L'=fl a->(∀t ∈ L',gd t)->Res a L') (K:∀L',tks L'=fl b->(∀t ∈ L',gd t)->Res b L') (F:wf a) (wb:wf b) :
 ∀p,TG 0 p L (jnh (.nd b' 9 s n xs [a,b]) (fL L)):=by
 subst H;intro p;have E:tks L=Tk.of 3 ::((Tk.of 4 ::xs.map jnb) ++Tk.of 27 ::(fl a ++Tk.of 5 ::fl b)):=by rw[O];simp[fl,pre,flk,sep,post]
 obtain⟨h1,h2,h3,U,h5,h6⟩:=jvJ E (jn9 (jwp (t:=Tk.of 4) (by decide) (by decide)) (jsC xs (by decide) (by decide))) (jn9 (jwp (t:=Tk.of 4) (by decide) (by decide)) (jsC xs (by decide) (by decide))) (jsA (.inl ⟨rfl,rfl⟩) F);have i1:=(W _ U (jpf I _ _)).1 0;rw[jpo F U]at i1;have R:=(K _ h5 (jpI I _)).1 0;rw[jpR wb]at R;have C:jns (jm4 L 1 ((Tk.of 4 ::xs.map jnb).length+1))=xs:=by rw[jtF,h3,List.filter_cons_of_neg (by simp[Tk.of]),jzk]
 have la:=jn8 F;have lb:=jn8 wb;have Z:jD L 1=4:=kd1 (by rw[E];rfl);refine joF (TG.rc (jpn E) h1 h2 (by simp) (by simp;omega) (by rw[h6];simp;omega) (by simp;omega) (by rw[C];exact Y) Z i1 R) ?_;rw[C];simp[fl,flk,post,jnh,jnp,joj,gAt,pw,pwH,jow,pre,sep,jn2,txs,fL,Ks,Kj,Ku]
theorem jDr {I n1:Nat}{ys:List ByteArray}(H:b'=0) (hx:2<=xs.length) (R:tks L=fl (.nd b' 10 s n ys [.nd 1 25 I n1 xs [],a,b])) (K:∀t ∈ L,gd t) (Z:∀L',tks L'=fl a->(∀t ∈ L',gd t)->Res a L') (O:∀L',tks L'=fl b->(∀t ∈ L',gd t)->Res b L') (F:wf a) (wb:wf b) :
 ∀p,TG 0 p L (jnh (.nd b' 10 s n ys [.nd 1 25 I n1 xs [],a,b]) (fL L)):=by
 subst H;intro p;have E:tks L=Tk.of 3 ::((oB ::(jnt xs ++[cB])) ++Tk.of 27 ::(fl a ++Tk.of 5 ::fl b)):=by rw[R];simp[fl,pre,flk,sep,post]
 have U:∀op cl,op≠23->op≠24->op≠25->op≠2->cl≠23->cl≠24->cl≠25->cl≠2->joc op cl (oB ::(jnt xs ++[cB])):=fun op cl q1 q2 q3 q4 q5 q6 q7 q8=>jo8 fun t ht=>by
  rw[Kk,Yq]at ht;rcases ht with rfl|ht|ht
  .exact⟨fun e=>q1 e.symm,fun e=>q5 e.symm⟩
  .rcases jz7 xs t ht with h|h <;> omega
  .simp at ht;subst ht;exact⟨fun e=>q2 e.symm,fun e=>q6 e.symm⟩
 obtain⟨h1,h2,h3,Y,h5,h6⟩:=jvJ E (U 99 27 (by decide) (by decide) (by decide) (by decide) (by decide) (by decide) (by decide) (by decide)) (U 3 5 (by decide) (by decide) (by decide) (by decide) (by decide) (by decide) (by decide) (by decide)) (jsA (.inl ⟨rfl,rfl⟩) F);have i1:=(Z _ Y (jpf K _ _)).1 0;rw[jpo F Y]at i1;have W:=(O _ h5 (jpI K _)).1 0;rw[jpR wb]at W
 have C:jns (jm4 L 1 ((oB ::(jnt xs ++[cB])).length+1))=xs:=by
  rw[jtF,h3,List.filter_cons_of_neg (by decide),List.filter_append,Km,jzl];simp[Tk.of]
 have la:=jn8 F;have lb:=jn8 wb;have h0:jD L 1=23:=kd1 (by rw[E];rfl);refine joF (TG.pr (jpn E) h1 h2 (by simp) (by simp;omega) (by rw[h6];simp;omega) (by simp;omega) (by rw[C];omega) h0 i1 W) ?_;rw[C];simp[fl,flk,post,jnh,jnp,joj,gAt,pw,pwH,jow,pre,sep,jn2,txs,fL,Ks,Kj,Ku]
theorem jDt (I:b'=0) (O:tks L=fl (.nd b' 11 s n xs [a,b,c])) (E:∀t ∈ L,gd t) (Z:∀L',tks L'=fl a->(∀t ∈ L',gd t)->Res a L') (K:∀L',tks L'=fl b->(∀t ∈ L',gd t)->Res b L') (hc:∀L',tks L'=fl c->(∀t ∈ L',gd t)->Res c L') (F:wf a) (wb:wf b) (wc:wf c) :
 ∀p,TG 0 p L (jnh (.nd b' 11 s n xs [a,b,c]) (fL L)):=by
 subst I;intro p;have C:tks L=Tk.of 6 ::(fl a ++Tk.of 7 ::(fl b ++Tk.of 8 ::fl c)):=by rw[O];simp[fl,pre,flk,sep,post]
 have hd:tks (L.drop 1)=fl a ++Tk.of 7 ::(fl b ++Tk.of 8 ::fl c):=by rw[joE,C];rfl
 have H:tks (L.drop (1+(fl a).length+1))=fl b ++Tk.of 8 ::fl c:=by
  rw[joE,C,show Tk.of 6 ::(fl a ++Tk.of 7 ::(fl b ++Tk.of 8 ::fl c))=(Tk.of 6 ::fl a ++[Tk.of 7]) ++(fl b ++Tk.of 8 ::fl c) by simp];exact List.drop_left' (by simp;omega)
 have U:tks (L.drop (1+(fl a).length+1+(fl b).length+1))=fl c:=by
  rw[joE,C,show Tk.of 6 ::(fl a ++Tk.of 7 ::(fl b ++Tk.of 8 ::fl c))=(Tk.of 6 ::fl a ++Tk.of 7 ::fl b ++[Tk.of 8]) ++fl c by simp];exact List.drop_left' (by simp;omega)
 have hi:mtL L 1 6 7=1+(fl a).length:=by unfold mtL;rw[hd,jsr (jsA (.inr (.inl ⟨rfl,rfl⟩)) F) rfl rfl]
 have hj:mtL L (1+(fl a).length+1) 6 8=1+(fl a).length+1+(fl b).length:=by unfold mtL;rw[H,jsr (jsA (.inr (.inr ⟨rfl,rfl⟩)) wb) rfl rfl]
 have c1:tks (jm4 L 1 (1+(fl a).length))=fl a:=by rw[jpY,<-joE,hd,Nat.add_sub_cancel_left,jq7]
 have R:tks (jm4 L (1+(fl a).length+1) (1+(fl a).length+1+(fl b).length))=fl b:=by rw[jpY,<-joE,H,Nat.add_sub_cancel_left,jq7]
 have i1:=(Z _ c1 (jpf E _ _)).1 0;rw[jpo F c1]at i1;have W:=(K _ R (jpf E _ _)).1 0;rw[jpo wb R]at W;have Y:=(hc _ U (jpI E _)).1 0;rw[jpR wc]at Y;have la:=jn8 F;have lb:=jn8 wb;have lc:=jn8 wc;have h0:L.length=(fl a).length+(fl b).length+(fl c).length+3:=by rw[<-jon,C];simp;omega
 refine joF (TG.iff (jpn C) hi hj (by omega) (by omega) (by omega) i1 W Y) ?_;simp[fl,flk,post,jnh,jnp,joj,gAt,pw,pwH,jow,pre,sep,jn2,txs,fL,Ks,Kj,Ku]
theorem jDv (E:b'=0) (I:tks L=fl (.nd b' 12 s n xs [b])) (K:∀t ∈ L,gd t) (H:∀L',tks L'=fl b->(∀t ∈ L',gd t)->Res b L') (wb:wf b) :
 ∀p,TG 0 p L (jnh (.nd b' 12 s n xs [b]) (fL L)):=by
 subst E;intro p;have C:tks L=Tk.of 9 ::(xs.map jnb ++Tk.of 22 ::fl b):=by rw[I];simp[fl,pre,flk,sep,post]
 have hd:tks (L.drop 1)=xs.map jnb ++Tk.of 22 ::fl b:=by rw[joE,C];rfl
 have hi:mtL L 1 99 22=1+(xs.map jnb).length:=by unfold mtL;rw[hd,jsr (op:=99) (cl:=22) (jsC xs (by decide) (by decide)) rfl rfl]
 have c1:tks (jm4 L 1 (1+(xs.map jnb).length))=xs.map jnb:=by rw[jpY,<-joE,hd,Nat.add_sub_cancel_left,jq7]
 have O:tks (L.drop (1+(xs.map jnb).length+1))=fl b:=by
  rw[joE,C,show Tk.of 9 ::(xs.map jnb ++Tk.of 22 ::fl b)=(Tk.of 9 ::xs.map jnb ++[Tk.of 22]) ++fl b by simp];exact List.drop_left' (by simp;omega)
 have F:=(H _ O (jpI K _)).1 0;rw[jpR wb]at F;have lb:=jn8 wb;have R:L.length=xs.length+(fl b).length+2:=by rw[<-jon,C];simp;omega
 refine joF (TG.fn (jpn C) hi (by omega) (by simp;omega) F) ?_;rw[jtF,c1,jzk];simp[fl,flk,post,jnh,jnp,joj,gAt,pw,pwH,jow,pre,sep,jn2,txs,fL,Ks,Kj,Ku]
abbrev RK (a:T):Prop:=∀L',tks L'=fl a->(∀t ∈ L',gd t)->Res a L'
theorem jGc {t:Tok}(h:gd t) (hk:3<=t.k):t.t=jC t.k:=by
 have:=h.1.1;rw[<-this];unfold jpz;rw[if_neg (by omega),if_neg (by omega),if_neg (by omega)]
theorem ju2 (C:tks L=A ++Tk.of s ::B) (E:∀t ∈ L,gd t) (I:3<=s):(jm7 L A.length).t=jC s:=by
 have H:A.length<L.length:=by rw[<-jon,C];simp
 have F:=jxt C;have hk:(jm7 L A.length).k=s:=congrArg Tk.k F;rw[jGc (E _ (jxu H)) (by omega),hk]
theorem lens (C:tks L=A ++t ::B) (E:1<=B.length):A.length+1<L.length:=by
 rw[<-jon,C];simp;omega
theorem jDo (R:tks L=fl (.nd 0 18 s n xs [a,b])) (H:∀t ∈ L,gd t) (ha:RK a) (I:RK b) (E:wf a) (wb:wf b) (F:a.k≠25) (ra:1<=rkT a) :
 ∀p,TG 0 p L (jnh (.nd 0 18 s n xs [a,b]) (fL L)):=by
 intro p;have C:tks L=fl a ++Tk.of 26 ::fl b:=by rw[R];simp[fl,pre,flk,sep,post]
 obtain⟨c1,c2⟩:=jsF C;have i1:=(ha _ c1 (jpf H _ _)).1 0;rw[jpo E c1]at i1;have Z:=(I _ c2 (jpI H _)).1 0;rw[jpR wb]at Z;have la:=jn8 E
 have hd:dep 0 (tks L)=some 0:=by
  rw[C,jru,jpg E];show dep 0 (Tk.of 26 ::fl b)=some 0;rw[jqn (by decide) (by decide) (by decide),jpg wb]
 have W:spl 26 L=(fl a).length:=by
  refine jB8 (x:=tks L) (r:=pos (fun _ k=>k == 26) 0 26 ((fl a).length+1) (fl b)) rfl hd ?_ la (fun h hh=>by have:=jsj _ _ _ _ _ h hh;omega);rw[jzu,C,(jnN a (jnD a E)).pos,jyy E ra,jqf _ (by decide) (by decide) (by decide)];simp[Tk.of]
 obtain⟨⟨K,O,U⟩,_⟩:=jro _ a jN E F ra;have Y:jD L 0=hk (fl a):=by rw[jrp C,jqz (jqC E)]
 rw[<-Y]at K O U;refine joF (TG.sq K O U W (by omega) (lens C (jn8 wb)) i1 Z) ?_;simp[fl,flk,post,jnh,jnp,joj,gAt,pw,pwH,jow,pre,sep,jn2,txs,fL,Ks,Kj,Ku]
theorem jDw (O:wf (.nd 0 17 s n xs [a,b])) (hs:jnJ s=true) (H:tks L=fl (.nd 0 17 s n xs [a,b])) (I:∀t ∈ L,gd t) (ha:RK a) (Y:RK b) (E:wf a) (wb:wf b) (K:a.k≠25) (ra:2<=rkT a) (rb:2<=rkT b) :
 ∀p,TG 0 p L (jnh (.nd 0 17 s n xs [a,b]) (fL L)):=by
 intro p;have C:tks L=fl a ++Tk.of s ::fl b:=by rw[H];simp[fl,pre,flk,sep,post]
 obtain⟨c1,c2⟩:=jsF C;have i1:=(ha _ c1 (jpf I _ _)).1 0;rw[jpo E c1]at i1;have j1:=(Y _ c2 (jpI I _)).1 0;rw[jpR wb]at j1;have la:=jn8 E;have F:(Tk.of s).k=s:=rfl;have R:=hs;simp only[jnJ,Yl,Yn]at R
 have h0:spl 27 L=(fl a).length:=by
  refine juW (r:=[]) (by omega) H (jpg O) ?_ la (by simp);rw[<-H,jzt,C,(jnN a (jnD a E)).pos,jvz E ra,jqf _ (by rw[F];omega) (by rw[F];omega) (by rw[F];omega),jvz wb rb,F,if_pos hs];simp
 obtain⟨⟨U,W,Z⟩,_⟩:=jro _ a jN E K (by omega);have h1:jD L 0=hk (fl a):=by rw[jrp C,jqz (jqC E)]
 rw[<-h1]at U W Z;refine joF (TG.cm U W Z (z26 H O (by simp[rkT,rk])) h0 (by omega) (lens C (jn8 wb)) i1 j1) ?_;rw[ju2 C I (by omega)];simp[fl,flk,post,jnh,jnp,joj,gAt,pw,pwH,jow,pre,sep,jn2,txs,fL,Ks,Kj,Ku]
theorem jDn (R:wf (.nd 0 16 s n xs [a,b])) (hs:jm6 s=true) (I:tks L=fl (.nd 0 16 s n xs [a,b])) (O:∀t ∈ L,gd t) (ha:RK a) (hb:RK b) (F:wf a) (wb:wf b) (K:a.k≠25) (U:b.k≠25) (ra:2<=rkT a) (rb:3<=rkT b) :
 ∀p,TG 0 p L (jnh (.nd 0 16 s n xs [a,b]) (fL L)):=by
 intro p;have E:tks L=fl a ++Tk.of s ::fl b:=by rw[I];simp[fl,pre,flk,sep,post]
 obtain⟨c1,c2⟩:=jsF E;have i1:=(ha _ c1 (jpf O _ _)).1 0;rw[jpo F c1]at i1;have j1:=(hb _ c2 (jpI O _)).1 0;rw[jpR wb]at j1;have la:=jn8 F;have H:(Tk.of s).k=s:=rfl;have W:=hs;simp only[jm6,Yl,Yn]at W;obtain⟨⟨Z,h6,h9⟩,_⟩:=jro _ a jN F K (by omega);have h8:ended (joI 0 (fl a))=true:=jFh _ a jN F K (by omega) 0;have h7:jpm (joI 0 (fl a)) s=true:=by unfold jpm;rw[hs,h8];rfl
 have h5:ended s=false:=by unfold ended jot;rcases W with rfl|rfl <;> rfl
 have h1:∀h ∈ pos jpm 0 0 0 (fl a),1<=h:=by
  intro h C;rcases Nat.eq_zero_or_pos h with Y|Y
  .exfalso
   subst Y
   cases hx :fl a with
   |nil=>exact jqC F hx
   |cons t r=>
    rw[hx]at C;simp only[pos,Yq]at C;rcases C with C|C
    .simp only[List.mem_ite_nil_right]at C
     have:=C.1.2;simp[jpm,ended,jot]at this
    .have:=(jsj _ _ _ _ _ 0 C).1
     omega
  .exact Y
 have h2:spl 30 L=(fl a).length:=by
  refine juW (r:=pos jpm 0 0 0 (fl a)) (by omega) I (jpg R) ?_ la h1;rw[<-I,jzs,E,(jnN a (jnD a F)).pos,jqf _ (by rw[H];omega) (by rw[H];omega) (by rw[H];omega),H,jyx _ b jN wb U rb _ _ (.inr h5),if_pos h7];simp
 have h4:jD L 0=hk (fl a):=by rw[jrp E,jqz (jqC F)]
 rw[<-h4]at Z h6 h9;refine joF (TG.su Z h6 h9 (z26 I R (by simp[rkT,rk])) (z27 I R (by simp[rkT,rk])) h2 (by omega) (lens E (jn8 wb)) i1 j1) ?_;rw[ju2 E O (by omega)];simp[fl,flk,post,jnh,jnp,joj,gAt,pw,pwH,jow,pre,sep,jn2,txs,fL,Ks,Kj,Ku]
theorem jFM:∀(m:Nat) (c:T),SizeOf.sizeOf c<=m->wf c->c.k≠25->1<=rkT c->jm5 (hk (fl c))=false:=by
 intro m
 induction m with
 |zero=>intro c h;cases c;simp at h
 |succ m ih=>
  intro c hs C O H
  cases c with
  |nd b k s n xs kids=>
   rw[wf]at C;rw[jnf]
   cases b with
   |succ b=>rw[List.replicate_succ];rfl
   |zero=>
    rw[rkT,if_neg (by omega)]at H;simp only[List.replicate_zero,Yx,Kd];have I:k≠7:=fun e=>by have:=C.2.1 e;omega
    have W:k≠25:=O
    by_cases E:pre k s n xs=[]
    .have h2:=jrD C.1 E
     match kids,h2,C,hs with
     |a ::q,_,C,hs=>
      have R:=C.2.2.2.1;have ra:=C.2.2.2.2.1
      have K:a.k≠25:=fun e=>by
       have:=(C.2.2.2.2.2.1.1 e).1;subst this;simp[pre]at E
      have U:=(jnN a (jnD a R)).ne;have e:bod k s n xs (a ::q)=fl a ++(flk k s 1 q ++post k):=by simp[bod,E,flk,sep]
      rw[e,jqz U];refine ih a (by simp at hs;omega) R K ?_;have:=juv C.1 (show 0<(a ::q).length by simp) H I (fun e=>by omega);omega
    .unfold bod
     rw[jqz E];have F:=C.1;unfold arB at F;unfold pre at E ⊢
     split at F <;> first
      |(exfalso;omega)
      |(simp[rk]at H;done)
      |rfl
      |(exfalso;simp at F;done)
      |(simp at F;match xs,F with|[x],_=>rfl)
      |(exfalso;exact E rfl)
theorem jDq (K:wf (.nd 0 15 s n xs [a,b])) (hs:jm5 s=true) (H:tks L=fl (.nd 0 15 s n xs [a,b])) (R:∀t ∈ L,gd t) (ha:RK a) (hb:RK b) (F:wf a) (wb:wf b) (O:a.k≠25) (ra:3<=rkT a) (rb:4<=rkT b) :
 ∀p,TG 0 p L (jnh (.nd 0 15 s n xs [a,b]) (fL L)):=by
 intro p;have E:tks L=fl a ++Tk.of s ::fl b:=by rw[H];simp[fl,pre,flk,sep,post]
 obtain⟨c1,c2⟩:=jsF E;have i1:=(ha _ c1 (jpf R _ _)).1 0;rw[jpo F c1]at i1;have j1:=(hb _ c2 (jpI R _)).1 0;rw[jpR wb]at j1;have la:=jn8 F;have I:(Tk.of s).k=s:=rfl;have Y:=hs;simp only[jm5,Yl,Yn]at Y;obtain⟨⟨Z,h6,h9⟩,_⟩:=jro _ a jN F O (by omega);have U:=jFM _ a jN F O (by omega)
 have h1:∀h ∈ pos (fun _ k=>jm5 k) 0 0 0 (fl a),1<=h:=by
  intro h C;rcases Nat.eq_zero_or_pos h with W|W
  .exfalso
   subst W
   cases hx :fl a with
   |nil=>exact jqC F hx
   |cons t r=>
    rw[hx]at C U;simp only[pos,Yq]at C;rcases C with C|C
    .simp only[List.mem_ite_nil_right]at C
     have:=C.1.2;rw[show jm5 t.k=false from U]at this;simp at this
    .have:=(jsj _ _ _ _ _ 0 C).1
     omega
  .exact W
 have h2:spl 32 L=(fl a).length:=by
  refine juW (r:=pos (fun _ k=>jm5 k) 0 0 0 (fl a)) (by omega) H (jpg K) ?_ la h1;rw[<-H,jzr,E,(jnN a (jnD a F)).pos,jqf _ (by rw[I];omega) (by rw[I];omega) (by rw[I];omega),jyz wb rb,I,if_pos hs];simp
 have h4:jD L 0=hk (fl a):=by rw[jrp E,jqz (jqC F)]
 rw[<-h4]at Z h6 h9;refine joF (TG.po Z h6 h9 (z26 H K (by simp[rkT,rk])) (z27 H K (by simp[rkT,rk])) (z30 H K (by show(15:Nat)≠25;decide) (by simp[rkT,rk])) h2 (by omega) (lens E (jn8 wb)) i1 j1) ?_;rw[ju2 E R (by omega)];simp[fl,flk,post,jnh,jnp,joj,gAt,pw,pwH,jow,pre,sep,jn2,txs,fL,Ks,Kj,Ku]
theorem jx0 (hk:k=13\/k=14) (F:wf (.nd 0 k s n xs [a])) (E:tks L=fl (.nd 0 k s n xs [a])) (O:∀t ∈ L,gd t) (K:RK a) (I:wf a) :
 ∀p,TG 0 p L (jnh (.nd 0 k s n xs [a]) (fL L)):=by
 intro p;have U:(T.nd 0 k s n xs [a]).k≠25:=by show k≠25;omega
 have W:4<=rkT (.nd 0 k s n xs [a]):=by rcases hk with rfl|rfl <;> simp[rkT,rk]
 have C:=And.intro (z26 E F (by omega)) (And.intro (z27 E F (by omega)) (And.intro (z30 E F U (by omega)) (z32 E F W)));have Y:=jn8 I;rcases hk with rfl|rfl
 .have hL':tks L=Tk.of 31 ::fl a:=by rw[E];simp[fl,pre,flk,sep,post]
  have R:tks (L.drop 1)=fl a:=by rw[joE,hL'];rfl
  have H:=(K _ R (jpI O _)).1 0;rw[jpR I]at H;refine joF (TG.ng (jpn hL') C.1 C.2.1 C.2.2.1 C.2.2.2 (by rw[<-jon,hL'];simp;omega) H) ?_;simp[fl,flk,post,jnh,jnp,joj,gAt,pw,pwH,jow,pre,sep,jn2,txs,fL,Ks,Kj,Ku]
 .have hL':tks L=Tk.of 10 ::fl a:=by rw[E];simp[fl,pre,flk,sep,post]
  have R:tks (L.drop 1)=fl a:=by rw[joE,hL'];rfl
  have H:=(K _ R (jpI O _)).1 0;rw[jpR I]at H;refine joF (TG.nt (jpn hL') C.1 C.2.1 C.2.2.1 C.2.2.2 (by rw[<-jon,hL'];simp;omega) H) ?_;simp[fl,flk,post,jnh,jnp,joj,gAt,pw,pwH,jow,pre,sep,jn2,txs,fL,Ks,Kj,Ku]
theorem jxY (hk:k=19\/k=21\/k=22\/k=23\/k=24):∀i,sep k s i=[]:=by
 intro i
 cases i with
 |zero=>rfl
 |succ i=>rcases hk with rfl|rfl|rfl|rfl|rfl <;> rfl
abbrev jq1 (c:T):Prop:=wf c/\c.k≠25/\6<=rkT c/\RK c
theorem jDx {c1:T}(H:wf (.nd 0 19 s n xs (c0 ::c1 ::r))) (E:tks L=fl (.nd 0 19 s n xs (c0 ::c1 ::r))) (U:∀t ∈ L,gd t) (hk:∀c ∈ c0 ::c1 ::r,jq1 c) :
 ∀p,TG 0 p L (jnh (.nd 0 19 s n xs (c0 ::c1 ::r)) (fL L)):=by
 intro p;have C:=jxY (k:=19) (s:=s) (.inl rfl);have F:tks L=fl c0 ++flk 19 s (0+1) (c1 ::r):=by rw[E];simp[fl,pre,flk,sep,post]
 have Y:=jyp C F (by rw[E];exact jpg H) (fun c hc=>⟨(hk c hc).1,(hk c hc).2.1,(hk c hc).2.2.1⟩);have R:tks (L.drop 0)=fl c0 ++flk 19 s (0+1) (c1 ::r):=by rw[List.drop_zero];exact F
 have O:=ops C L U (c1 ::r) c0 0 0 R (fun c hc=>⟨(hk c hc).1,(hk c hc).2.2.1,(hk c hc).2.2.2⟩);rw[Kc]at O;rw[<-Y]at O;obtain⟨_,_,Z⟩:=jro _ c0 jN (hk c0 (by simp)).1 (hk c0 (by simp)).2.1 (by have:=(hk c0 (by simp)).2.2.1;omega);have I:=Z (hk c0 (by simp)).2.2.1;have W:jD L 0=Go.Proofs.YtlpmpelnhdoboaaGreatDoor.hk (fl c0):=by rw[jrp F,jqz (jqC (hk c0 (by simp)).1)]
 rw[<-W]at I;have K:(opL L).length≠1:=by rw[Y,jx8,jxK];simp
 refine joF (jwC H (by show(19:Nat)≠25;decide) (by simp[rkT,rk]) E (TG.cl I (jrl E H) K O) p) ?_;have h0:=C 1;rw[jnh,jnp];simp only[pre,sep,joj,gAt,List.length_nil,Kc]
 have e:(G.pos (jnh c0 fun i=>fL L i))=fL L (pw (.nd 0 19 s n xs (c0 ::c1 ::r))):=by
  rw[jF7,pw];simp[pwH]
 rw[e];simp[jnp,sep]
theorem jtc {w:Nat}(C:(k=21/\w=14)\/(k=22/\w=15)\/(k=23/\w=16)\/(k=24/\w=17)) (O:wf (.nd 0 k s n xs (c0 ::r))) (I:tks L=fl (.nd 0 k s n xs (c0 ::r))) (W:∀t ∈ L,gd t) (hk:∀c ∈ c0 ::r,jq1 c) :
 ∀p,TG 0 p L (jnh (.nd 0 k s n xs (c0 ::r)) (fL L)):=by
 intro p;have F:=jxY (k:=k) (s:=s) (by omega)
 have E:tks L=Tk.of w ::(fl c0 ++flk k s (0+1) r):=by
  rw[I];rcases C with⟨rfl,rfl⟩|⟨rfl,rfl⟩|⟨rfl,rfl⟩|⟨rfl,rfl⟩ <;> simp[fl,pre,flk,sep,post]
 have H:tks (L.drop 1)=fl c0 ++flk k s (0+1) r:=by rw[joE,E];rfl
 have R:dep 0 (tks (L.drop 1))=some 0:=by
  have h:=jpg O;rw[<-I,E,jqn (by show w≠23;omega) (by show w≠24;omega) (by show w≠18;omega)]at h;rw[H];exact h
 have Z:=jyp F H R (fun c hc=>⟨(hk c hc).1,(hk c hc).2.1,(hk c hc).2.2.1⟩);have Y:tks ((L.drop 1).drop 0)=fl c0 ++flk k s (0+1) r:=by rw[List.drop_zero];exact H
 have U:=ops F (L.drop 1) (jpI W 1) r c0 0 0 Y (fun c hc=>⟨(hk c hc).1,(hk c hc).2.2.1,(hk c hc).2.2.2⟩);rw[Kc]at U;rw[<-Z]at U;have K:jD L 0=w:=jpn E;have hr:5<=rkT (.nd 0 k s n xs (c0 ::r)):=by rcases C with⟨rfl,_⟩|⟨rfl,_⟩|⟨rfl,_⟩|⟨rfl,_⟩ <;> simp[rkT,rk]
 have h0:=jn8 (hk c0 (by simp)).1;refine joF (jwC O (by show k≠25;omega) hr I (.wd (by rw[K];rcases C with⟨_,rfl⟩|⟨_,rfl⟩|⟨_,rfl⟩|⟨_,rfl⟩ <;> rfl) (by rw[<-jon,E];simp;omega) U) p) ?_;rw[K];rcases C with⟨rfl,rfl⟩|⟨rfl,rfl⟩|⟨rfl,rfl⟩|⟨rfl,rfl⟩ <;> simp[jnh,jnp,joj,gAt,pw,pre,sep,fL,juK,jBG,Ks,Kj,Ku]
theorem jz1 {x:List Tk}{u:Tk}(h:tks L=t ::(x ++[u])):tks (jm4 L 1 (L.length-1))=x:=by
 have C:L.length=x.length+2:=by rw[<-jon,h];simp
 rw[jpY,h,C];simp
theorem jDu (hw:wf (.nd 0 20 s n xs [a,b])) (I:tks L=fl (.nd 0 20 s n xs [a,b])) (U:∀t ∈ L,gd t) (C:jq1 a) (wb:wf b) (Z:RK b):TG 2 (jm7 L 0).p L (jnh (.nd 0 20 s n xs [a,b]) (fL L)):=by
 have H:tks L=fl a ++Tk.of 18 ::(fl b ++[cB]):=by rw[I];simp[fl,pre,flk,sep,post]
 obtain⟨c1,c2⟩:=jsF H;have la:=jn8 C.1;have lb:=jn8 wb;have W:L.length=(fl a).length+(fl b).length+2:=by rw[<-jon,H];simp;omega
 have c3:tks (jm4 L ((fl a).length+1) (L.length-1))=fl b:=by
  rw[jpY,<-joE,c2,W];rw[show(fl a).length+(fl b).length+2-1-((fl a).length+1)=(fl b).length by omega,jq7]
 have i1:=(C.2.2.2 _ c1 (jpf U _ _)).2 C.2.2.1;rw[juL (by omega),Kc,jpo C.1 c1]at i1;have j1:=(Z _ c3 (jpf U _ _)).1 0;rw[jpo wb c3]at j1;have h2:=jnN a (jnD a C.1);have O:=jnN b (jnD b wb)
 have h1:∀h ∈ pos (fun _ k=>k == 18) 0 0 0 (fl a),1<=h:=by
  intro h E;rcases Nat.eq_zero_or_pos h with Y|Y
  .exfalso
   subst Y;have:=jti _ a jN C.1 C.2.1 C.2.2.1 0 0
   cases K :fl a with
   |nil=>exact jqC C.1 K
   |cons t r=>
    rw[K]at E this;simp only[pos,Yq]at E;rcases E with E|E
    .simp only[List.mem_ite_nil_right]at E
     have R:t.k=18:=by simpa using E.1.2
     have h3:isC t=false:=by simp[isC,R]
     simp only[pos,h3,Kr,if_false,jpe,R]at this;simp at this;have:=jsj _ _ _ _ _ 0 (by rw[this];simp);omega
    .have:=(jsj _ _ _ _ _ 0 E).1
     omega
  .exact Y
 have K:ixL L=(fl a).length:=by
  rw[jtC (hs:=pos (fun _ k=>k == 18) 0 0 0 (fl a) ++[(fl a).length]) I (jpg hw) ?_ (by intro h F;rcases Yq.1 F with F|F;exact h1 h F;simp at F;omega),List.foldl_append]
  .rfl
  .rw[<-I,H,h2.pos,jte,jpG _ _ _ 1 1 _ _ (O.dep 1),jrL _ _ 0 0 _ _ (O.dep 0),jsk]
   simp
 refine joF (TG.gt K (by omega) (by omega) i1 j1) ?_;simp[fl,flk,post,jnh,jnp,joj,gAt,pw,pwH,jow,pre,sep,jn2,txs,fL,Ks,Kj,Ku]
theorem jst (F:tks L=[t]) (h:t.k≠18) (E:t.k≠24) (C:t.k≠23):ixL L=0:=jtC (hs:=[]) F (by rw[jqn C E h];rfl) (by rw[jqf _ C E h];simp[pos,h]) (by simp)
theorem jDz (hk:k<=6) (U:wf (.nd 0 k s n xs [])) (E:tks L=fl (.nd 0 k s n xs [])) (hg:∀t ∈ L,gd t):TG 2 (jm7 L 0).p L (jnh (.nd 0 k s n xs []) (fL L)):=by
 have ha:=U;rw[wf]at ha;have I:=ha.1;have H:=jrl E U;have K:∀t:Tk,fl (.nd 0 k s n xs [])=[t]->(jm7 L 0).tk=t:=fun t ht=>jxt (x:=[]) (by rw[E,ht];rfl)
 match k,hk with
 |0,_=>simp[arB]at I
 |1,_=>
  have C:fl (.nd 0 1 s n xs [])=[jp2 n]:=by simp[fl,pre,flk,post]
  have ht:=K _ C;have O:(jm7 L 0).k=1:=congrArg Tk.k ht;have hn:(jm7 L 0).n=n:=by have:=congrArg Tk.n ht;simpa[Tok.tk,O,jp2] using this
  obtain⟨v1,v2⟩:=(hg _ (jxu H)).2 O;have Y:(jp2 n).k=1:=rfl;refine joF (TG.nu (jst (E.trans C) (by rw[Y];decide) (by rw[Y];decide) (by rw[Y];decide)) H (jpn (E.trans C)) v1 v2) ?_;rw[hn];simp[fl,flk,post,jnh,jnp,joj,gAt,pw,pwH,jow,pre,sep,jn2,txs,fL,Ks,Kj,Ku]
 |2,_=>
  have C:fl (.nd 0 2 s n xs [])=[Tk.of 11]:=by simp[fl,pre,flk,post]
  exact joF (TG.tr (jst (E.trans C) (by decide) (by decide) (by decide)) H (jpn (E.trans C))) (by simp[fl,flk,post,jnh,jnp,joj,gAt,pw,pwH,jow,pre,sep,jn2,txs,fL,Ks,Kj,Ku])
 |3,_=>
  have C:fl (.nd 0 3 s n xs [])=[Tk.of 12]:=by simp[fl,pre,flk,post]
  exact joF (TG.fa (jst (E.trans C) (by decide) (by decide) (by decide)) H (jpn (E.trans C))) (by simp[fl,flk,post,jnh,jnp,joj,gAt,pw,pwH,jow,pre,sep,jn2,txs,fL,Ks,Kj,Ku])
 |4,_=>
  have C:fl (.nd 0 4 s n xs [])=[Tk.of 13]:=by simp[fl,pre,flk,post]
  exact joF (TG.rd (jst (E.trans C) (by decide) (by decide) (by decide)) H (jpn (E.trans C))) (by simp[fl,flk,post,jnh,jnp,joj,gAt,pw,pwH,jow,pre,sep,jn2,txs,fL,Ks,Kj,Ku])
 |5,_=>
  simp[arB]at I
  match xs,I with
  |[x],_=>
   have C:fl (.nd 0 5 s n [x] [])=[jnb x]:=by simp[fl,pre,flk,post]
   have ht:=K _ C;have h0:(jm7 L 0).k=2:=congrArg Tk.k ht;have W:(jm7 L 0).t=x:=by have:=congrArg Tk.x ht;simpa[Tok.tk,h0,jnb] using this
   have Z:(jnb x).k=2:=rfl;refine joF (TG.vr (jst (E.trans C) (by rw[Z];decide) (by rw[Z];decide) (by rw[Z];decide)) H (jpn (E.trans C))) ?_;rw[W];simp[fl,flk,post,jnh,jnp,joj,gAt,pw,pwH,jow,pre,sep,jn2,txs,fL,Ks,Kj,Ku]
 |6,_=>
  have C:fl (.nd 0 6 s n xs [])=oB ::([] ++[cB]):=by simp[fl,pre,flk,post]
  have F:=E.trans C;have hc:=jz1 F
  have R:jm4 L 1 (L.length-1)=[]:=by
   have:=congrArg List.length hc;rw[jon]at this;exact Yh this
  have W:ixL L=0:=jtC (hs:=[]) F rfl rfl (by simp);exact joF (TG.bk W (by rw[<-jon,F];simp) (jpn F) (by rw[R];exact .un)) (by simp[fl,flk,post,jnh,jnp,joj,gAt,pw,pwH,jow,pre,sep,jn2,txs,fL,Ks,Kj,Ku])
theorem jzK (b k s n:Nat) (xs:List ByteArray) (kids:List T):fl (.nd (b+1) k s n xs kids)=oB ::(fl (.nd b k s n xs kids) ++[cB]):=by
 rw[jnf,jnf,List.replicate_succ,List.replicate_succ' (n:=b) (a:=cB)];simp
theorem jDy {b:Nat}{kids:List T}(F:wf (.nd (b+1) k s n xs kids)) (H:k≠25) (C:tks L=fl (.nd (b+1) k s n xs kids))
 (h:TG 3 (jm7 L 0).p (jm4 L 1 (L.length-1)) (jnh (.nd (b+1) k s n xs kids) (fL L))):Res (.nd (b+1) k s n xs kids) L:=by
 have K:6<=rkT (.nd (b+1) k s n xs kids):=by simp[rkT]
 refine jva F H K C ?_;have E:=F;rw[wf]at E;have I:Bal (bod k s n xs kids):=jqG E.1 (jp9 _ _ _ E.2.2.2);have O:ixL L=0:=jtC (hs:=[]) C (jpg F) (by rw[jnf];exact jvg I b 0 0 (fun _=>rfl) (fun _=>rfl)) (by simp);rw[jzK]at C;exact .bk O (by rw[<-jon,C];simp) (jpn C) h
theorem jF6 {b:Nat}{kids:List T}(F:k=7->1<=b) (f:Nat->Int):jnh (.nd (b+1) k s n xs kids) f=jnh (.nd b k s n xs kids) (fun i=>f (1+i)):=by
 rw[jnh,jnh]
 have e:pw (.nd (b+1) k s n xs kids)=1+pw (.nd b k s n xs kids):=by
  rw[pw,pw]
  by_cases C:k=7
  .rw[if_pos C,if_pos C];have:=F C;omega
  .rw[if_neg C,if_neg C]
   by_cases E:k=19
   .rw[if_pos E,if_pos E];omega
   .rw[if_neg E,if_neg E]
    split <;> omega
 rw[e]
 congr 3
 funext i
 congr 1
 omega
theorem jBL:∀(m:Nat) (c:T),SizeOf.sizeOf c<=m->wf c->c.k≠25->∀L,tks L=fl c->(∀t ∈ L,gd t)->Res c L:=by
 intro m
 induction m with
 |zero=>intro c h;cases c;simp at h
 |succ m ih=>
  intro c hs hw h9 L W hg
  cases c with
  |nd b k s n xs kids=>
   have h8:k≠25:=h9;have U:=hw;rw[wf]at hw;obtain⟨F,h7,_,E⟩:=hw
   have C:∀c ∈ kids,∃j,j<kids.length/\wf c/\wanted k j<=rkT c/\(c.k=25↔(k=10/\j=0))/\(c.k≠25->RK c):=fun c hc=>by
    obtain⟨j,_,j2,j3,j4,j5⟩:=jsQ kids 0 E c hc;refine⟨j,by omega,j3,j4,j5,fun Z L' h6 k2=>ih c ?_ j3 Z L' h6 k2⟩;have:=List.sizeOf_lt_of_mem hc;simp at hs;omega
   cases b with
   |succ b=>
    have k8:=W;rw[jzK]at k8;have h4:=jz1 k8;refine jDy U h8 W ?_
    by_cases ht:k=7/\b=0
    .obtain⟨rfl,rfl⟩:=ht
     have hm:2<=kids.length:=by simp[arB]at F;exact F.1.1
     match kids,hm,C,E,h4 with
     |c0 ::c1 ::r,_,C,E,h4=>
      have h1:∀c ∈ c0 ::c1 ::r,wf c/\c.k≠25/\RK c:=fun c hc=>by
       obtain⟨j,_,j2,_,j4,j5⟩:=C c hc;have:c.k≠25:=fun e=>by have:=(j4.1 e).1;omega
       exact⟨j2,this,j5 this⟩
      have h3:tks (jm4 L 1 (L.length-1))=fl c0 ++flk 7 s (0+1) (c1 ::r):=by rw[h4];simp[fl,pre,flk,sep,post]
      obtain⟨L',h6⟩:∃L',L'=jm4 L 1 (L.length-1):=⟨_,rfl⟩
      have k2:∀t ∈ L',gd t:=by rw[h6];exact jpf hg _ _
      rw[<-h6]at h3 ⊢;have h5:=(h1 c0 (by simp)).1;have q9:0<L'.length:=by rw[<-jon,h3];have:=jn8 h5;simp;omega
      have k9:dep 0 (fl c0 ++flk 7 s (0+1) (c1 ::r))=some 0:=by
       rw[jru,jpg h5];exact(jv7 (c1 ::r) (jp9 _ _ _ E.2.2.2) 7 s xs _ F (by decide) 1 (by simp)).dep 0
      have k4:cmL L'=cms 0 (cp (0+(fl c0).length) (c1 ::r)):=by
       refine jAe h3 k9 ?_;rw[(jnN c0 (jnD c0 h5)).pos,jvy h5 (fun e=>absurd e (h1 c0 (by simp)).2.1),Yx];exact jz4 s (c1 ::r) 0 _ _ (fun c hc=>⟨(h1 c (by simp at hc ⊢;exact .inr hc)).1,(h1 c (by simp at hc ⊢;exact .inr hc)).2.1⟩)
      have k7:∀i,i<L'.length->fL L' i=fL L (1+i):=fun i hi=>by
       unfold fL;rw[h6,juL];rw[h6]at hi;unfold jm4 at hi;rw[List.length_take]at hi;omega
      obtain⟨gs,g,i1,i2,i3,i4,i5,i6⟩:=tup L' k2 s (c1 ::r) c0 0 0 h5 (by rw[List.drop_zero];exact h3) (fun c hc=>(h1 c hc).2.2) (fun c hc=>(h1 c (by simp at hc ⊢;exact .inr hc)).1);rw[<-k4]at i1 i2 i4 i6;have r3:=i6 (by simp);refine joF (TG.tu q9 (by omega) i4 i1 i2) ?_;rw[i3];have r2:(fl c0).length+(flk 7 s (0+1) (c1 ::r)).length=L'.length:=by rw[<-jon,h3];simp
      have e1:(jnh c0 fun i=>fL L' (0+i))=jnh c0 fun j=>fL L (0+1+(([]:List Tk).length+(([]:List Tk).length+j))):=jtI c0 _ _ h5 (fun i hi=>by
       rw[k7 _ (by omega)];congr 1;simp)
      have e2:(jnp 7 s (0+1) (c1 ::r) fun i=>fL L' (0+(fl c0).length+i))=jnp 7 s (0+1) (c1 ::r) fun j=>fL L (0+1+(([]:List Tk).length+(([]:List Tk).length+((fl c0).length+j)))):=jv1 7 s _ _ _ _ E.2.2.2 (fun i hi=>by
       rw[k7 _ (by omega)];congr 1;simp)
      rw[e1,e2,jnh,jnp];rfl
    .have hw':wf (.nd b k s n xs kids):=by
      rw[wf];exact⟨F,fun e=>by have:=h7 e;omega,fun e=>absurd e h8,E⟩
     have q4:=ih (.nd b k s n xs kids) (by simp at hs ⊢;omega) hw' h9 _ h4 (jpf hg _ _);have g1:=q4.1 0;rw[jpo hw' h4,<-jF6 (fun e=>by have:=h7 e;omega)]at g1;have k4:cmL (jm4 L 1 (L.length-1))=([],0):=jAe (hs:=[]) h4 (jpg hw') (jvy hw' (fun e=>absurd e h8) 0 0);exact .on (jrl h4 hw') k4 g1
   |zero=>
    have q6:k≠7:=fun e=>by have:=h7 e;omega
    by_cases k1:k<=6
    .obtain⟨hm0,hr7⟩:=jwH F k1
     have:kids=[]:=Yh hm0;subst this;exact jva U h9 (by simp[rkT,hr7]) W (jDz k1 U W hg)
    .have h2:∀{m},kids.length=m->kids.length=m:=fun h=>h
     match k,k1,q6,h8 with
     |8,_,_,_=>
      simp[arB]at F
      match kids,F.1,xs,F.2 with
      |[a,b],_,[x],_=>
       obtain⟨_,_,Y,_,H,ra⟩:=C a (by simp);obtain⟨_,_,wb,_,K,rb⟩:=C b (by simp);exact jpd (by simp[rkT,rk]) (jDs rfl W hg (ra (fun e=>by have:=(H.1 e).1;omega)) (rb (fun e=>by have:=(K.1 e).1;omega)) Y wb)
     |9,_,_,_=>
      simp[arB]at F
      match kids,F.1.1 with
      |[a,b],_=>
       obtain⟨_,_,Y,_,H,ra⟩:=C a (by simp);obtain⟨_,_,wb,_,K,rb⟩:=C b (by simp);exact jpd (by simp[rkT,rk]) (jDp rfl F.1.2 W hg (ra (fun e=>by have:=(H.1 e).1;omega)) (rb (fun e=>by have:=(K.1 e).1;omega)) Y wb)
     |10,_,_,_=>
      simp[arB]at F
      match kids,F.1,E with
      |[q,a,b],_,E=>
       obtain⟨_,hq,_⟩:wf q/\q.k=25/\True:=⟨E.1,E.2.2.1.2 ⟨rfl,rfl⟩,trivial⟩
       have wq:=E.1;have Y:=E.2.2.2.1;have wb:=E.2.2.2.2.2.2.1;have H:a.k≠25:=fun e=>by have:=(E.2.2.2.2.2.1.1 e).2;omega
       have K:b.k≠25:=fun e=>by have:=(E.2.2.2.2.2.2.2.2.1.1 e).2;omega
       obtain⟨_,_,_,_,_,ra⟩:=C a (by simp);obtain⟨_,_,_,_,_,rb⟩:=C b (by simp)
       cases q with
       |nd bq kq sq nq ys kq'=>
        have r1:kq=25:=hq;subst r1;rw[wf]at wq;have q5:=wq.2.2.1 rfl;subst q5;have k5:=wq.1;simp[arB]at k5;obtain⟨⟨q7,q8⟩,_⟩:=k5;subst q7;exact jpd (by simp[rkT,rk]) (jDr rfl q8 W hg (ra H) (rb K) Y wb)
     |11,_,_,_=>
      simp[arB]at F
      match kids,F.1 with
      |[a,b,c],_=>
       obtain⟨_,_,Y,_,H,ra⟩:=C a (by simp);obtain⟨_,_,wb,_,K,rb⟩:=C b (by simp);obtain⟨_,_,wc,_,Z,rc⟩:=C c (by simp);exact jpd (by simp[rkT,rk]) (jDt rfl W hg (ra (fun e=>by have:=(H.1 e).1;omega)) (rb (fun e=>by have:=(K.1 e).1;omega)) (rc (fun e=>by have:=(Z.1 e).1;omega)) Y wb wc)
     |12,_,_,_=>
      simp[arB]at F
      match kids,F.1.1 with
      |[b],_=>
       obtain⟨_,_,wb,_,K,rb⟩:=C b (by simp);exact jpd (by simp[rkT,rk]) (jDv rfl W hg (rb (fun e=>by have:=(K.1 e).1;omega)) wb)
     |13,_,_,_=>
      simp[arB]at F
      match kids,F.1 with
      |[a],_=>
       obtain⟨_,_,Y,_,H,ra⟩:=C a (by simp);exact jpd (by simp[rkT,rk]) (jx0 (.inl rfl) U W hg (ra (fun e=>by have:=(H.1 e).1;omega)) Y)
     |14,_,_,_=>
      simp[arB]at F
      match kids,F.1 with
      |[a],_=>
       obtain⟨_,_,Y,_,H,ra⟩:=C a (by simp);exact jpd (by simp[rkT,rk]) (jx0 (.inr rfl) U W hg (ra (fun e=>by have:=(H.1 e).1;omega)) Y)
     |15,_,_,_=>
      simp[arB]at F
      match kids,F.1.1,E with
      |[a,b],_,E=>
       obtain⟨_,_,Y,_,H,ra⟩:=C a (by simp);obtain⟨_,_,wb,_,K,rb⟩:=C b (by simp);have I:a.k≠25:=fun e=>by have:=(H.1 e).1;omega
       exact jpd (by simp[rkT,rk]) (jDq U (by simp[jm5];omega) W hg (ra I) (rb (fun e=>by have:=(K.1 e).1;omega)) Y wb I E.2.1 E.2.2.2.2.1)
     |16,_,_,_=>
      simp[arB]at F
      match kids,F.1.1,E with
      |[a,b],_,E=>
       obtain⟨_,_,Y,_,H,ra⟩:=C a (by simp);obtain⟨_,_,wb,_,K,rb⟩:=C b (by simp);have I:a.k≠25:=fun e=>by have:=(H.1 e).1;omega
       have h0:b.k≠25:=fun e=>by have:=(K.1 e).1;omega
       exact jpd (by simp[rkT,rk]) (jDn U (by simp[jm6];omega) W hg (ra I) (rb h0) Y wb I h0 E.2.1 E.2.2.2.2.1)
     |17,_,_,_=>
      simp[arB]at F
      match kids,F.1.1,E with
      |[a,b],_,E=>
       obtain⟨_,_,Y,_,H,ra⟩:=C a (by simp);obtain⟨_,_,wb,_,K,rb⟩:=C b (by simp);have I:a.k≠25:=fun e=>by have:=(H.1 e).1;omega
       have h0:b.k≠25:=fun e=>by have:=(K.1 e).1;omega
       exact jpd (by simp[rkT,rk]) (jDw U (by simp[jnJ];omega) W hg (ra I) (rb h0) Y wb I E.2.1 E.2.2.2.2.1)
     |18,_,_,_=>
      simp[arB]at F
      match kids,F.1,E with
      |[a,b],_,E=>
       obtain⟨_,_,Y,_,H,ra⟩:=C a (by simp);obtain⟨_,_,wb,_,K,rb⟩:=C b (by simp);have I:a.k≠25:=fun e=>by have:=(H.1 e).1;omega
       have h0:b.k≠25:=fun e=>by have:=(K.1 e).1;omega
       exact jpd (by simp[rkT,rk]) (jDo W hg (ra I) (rb h0) Y wb I E.2.1)
     |19,_,_,_=>
      have R:∀c ∈ kids,jq1 c:=fun c hc=>by
       obtain⟨j,_,wc,rc,Z,rr⟩:=C c hc;have O:c.k≠25:=fun e=>by have:=(Z.1 e).1;omega
       exact⟨wc,O,rc,rr O⟩
      simp[arB]at F
      match kids,F.1.1,R with
      |c0 ::c1 ::r,_,R=>exact jpd (by simp[rkT,rk]) (jDx U W hg R)
     |20,_,_,_=>
      simp[arB]at F
      match kids,F.1,E with
      |[a,b],_,E=>
       obtain⟨_,_,Y,_,H,ra⟩:=C a (by simp);obtain⟨_,_,wb,_,K,rb⟩:=C b (by simp);have I:a.k≠25:=fun e=>by have:=(H.1 e).1;omega
       have h0:b.k≠25:=fun e=>by have:=(K.1 e).1;omega
       exact jva U h9 (by simp[rkT,rk]) W (jDu U W hg ⟨Y,I,E.2.1,ra I⟩ wb (rb h0))
     |21,_,_,_=>
      have R:∀c ∈ kids,jq1 c:=fun c hc=>by
       obtain⟨j,_,wc,rc,Z,rr⟩:=C c hc;have O:c.k≠25:=fun e=>by have:=(Z.1 e).1;omega
       exact⟨wc,O,rc,rr O⟩
      simp[arB]at F
      match kids,F.1,R with
      |c0 ::r,_,R=>exact jpd (by simp[rkT,rk]) (jtc (w:=14) (.inl ⟨rfl,rfl⟩) U W hg R)
     |22,_,_,_=>
      have R:∀c ∈ kids,jq1 c:=fun c hc=>by
       obtain⟨j,_,wc,rc,Z,rr⟩:=C c hc;have O:c.k≠25:=fun e=>by have:=(Z.1 e).1;omega
       exact⟨wc,O,rc,rr O⟩
      simp[arB]at F
      match kids,F.1,R with
      |c0 ::r,_,R=>exact jpd (by simp[rkT,rk]) (jtc (w:=15) (.inr (.inl ⟨rfl,rfl⟩)) U W hg R)
     |23,_,_,_=>
      have R:∀c ∈ kids,jq1 c:=fun c hc=>by
       obtain⟨j,_,wc,rc,Z,rr⟩:=C c hc;have O:c.k≠25:=fun e=>by have:=(Z.1 e).1;omega
       exact⟨wc,O,rc,rr O⟩
      simp[arB]at F
      match kids,F.1,R with
      |c0 ::r,_,R=>exact jpd (by simp[rkT,rk]) (jtc (w:=16) (.inr (.inr (.inl ⟨rfl,rfl⟩))) U W hg R)
     |24,_,_,_=>
      have R:∀c ∈ kids,jq1 c:=fun c hc=>by
       obtain⟨j,_,wc,rc,Z,rr⟩:=C c hc;have O:c.k≠25:=fun e=>by have:=(Z.1 e).1;omega
       exact⟨wc,O,rc,rr O⟩
      simp[arB]at F
      match kids,F.1,R with
      |c0 ::r,_,R=>exact jpd (by simp[rkT,rk]) (jtc (w:=17) (.inr (.inr (.inr ⟨rfl,rfl⟩))) U W hg R)
     |0,h,_,_|1,h,_,_|2,h,_,_|3,h,_,_|4,h,_,_|5,h,_,_|6,h,_,_=>exact absurd (by omega) h
     |7,_,h,_=>exact absurd rfl h
     |25,_,_,h=>exact absurd rfl h
     |k+26,_,_,_=>simp[arB]at F
theorem jxm (F:wf c) (C:c.k≠25) (H:tks L=fl c) (E:∀t ∈ L,gd t):jno L (jnh c (fL L)):=jBA ((jBL _ c jN F C L H E).1 0)
inductive Sg where
 |ok (l:List Tok) (o:Nat)
 |bad (e p:Nat)
def Sg.pot:Sg->Nat
 | .ok l _=>100*l.length
 | .bad _ _=>0
def Sg.good:Sg->Bool
 | .ok _ _=>true
 | .bad _ _=>false
def Sg.res:Sg->Sl.Res (List V)
 | .ok l o=>.ok [] l o
 | .bad e p=>.bad e p
def Sg.tm (k:Nat):Sg->Sg
 | .ok (t ::l) o=>if t.k=k then .ok l o else .bad 4 t.p
 | .ok [] _=>.bad 4 0
 | .bad e p=>.bad e p
def Sg.cl:Sg->Sg
 | .ok (t ::l) o=>if t.k=24 then .ok l (o-1) else .bad 4 t.p
 | .ok [] _=>.bad 4 0
 | .bad e p=>.bad e p
theorem joA (k:Nat) (t:Tok) (l:List Tok) (o:Nat):(Sg.ok (t ::l) o).tm k=if t.k=k then .ok l o else .bad 4 t.p:=rfl
theorem jtY (t:Tok) (l:List Tok) (o:Nat):(Sg.ok (t ::l) o).cl=if t.k=24 then .ok l (o-1) else .bad 4 t.p:=rfl
def SimS (L:List Tok) (q:Q) (oi:Int):Sg->Prop
 | .ok l o=>L.drop q.S.next=l/\q.S.err=0/\(o:Int)=oi/\Sl.Ends l/\oi<=12
 | .bad e p=>q.S.err=(e:Int)/\e≠0/\q.S.at'=(p:Int)/\L.length<=q.S.next/\q.S.next<=L.length+1
structure Sim (L:List Tok) (q:Q) (oi:Int) (s:Sg):Prop where
 opn:q.S.opn=oi
 lo:0<=oi
 hi:oi<=13
 st:SimS L q oi s
theorem drop_at {t:Tok}{l:List Tok}(h:L.drop n=t ::l):L[n]? =some t/\L.drop (n+1)=l/\n<L.length:=by
 have C:n<L.length:=by
  apply Nat.lt_of_not_le;intro E;rw[Ui E]at h;cases h
 have E:L.drop n=L[n] ::L.drop (n+1):=Ki C;rw[E]at h;injection h with h3 h4
 exact⟨by rw[Yb C,h3],h4,C⟩
section
variable {L:List Tok}{q:Q}{oi:Int}{s:Sg}{t:Tok}{l:List Tok}{o:Nat}
theorem Sim.word (h:Sim L q oi (.ok (t ::l) o)):q.word L=t:=by
 have:=(drop_at h.st.1).1;simp[Q.word,jE,this]
theorem Sim.kind (h:Sim L q oi (.ok (t ::l) o)):q.kind L=t.k:=by
 have:=h.word;unfold Q.kind;unfold Q.word at this;rw[this]
theorem Sim.kind0 {e p:Nat}(h:Sim L q oi (.bad e p)):q.kind L=0:=by
 have:=h.st.2.2.2.1;simp[Q.kind,jE,Ue this]
theorem Sim.take (h:Sim L q oi (.ok (t ::l) o)) (hk:t.k≠0):Sim L q.take oi (.ok l o):=
 ⟨h.opn,h.lo,h.hi,(drop_at h.st.1).2.1,h.st.2.1,h.st.2.2.1,h.st.2.2.2.1.tail hk,h.st.2.2.2.2⟩
theorem Sim.failT (h:Sim L q oi (.ok (t ::l) o)) (e:Nat) (he:e≠0):Sim L (q.fail L e) oi (.bad e t.p):=by
 have C:=h.word;unfold Q.word at C;refine⟨h.opn,h.lo,h.hi,?_,he,?_,jN,Nat.le_succ _⟩
 .show(if q.S.err=0 then(e:Int) else q.S.err)=_
  rw[if_pos h.st.2.1]
 .show(if q.S.err=0 then(((jE L q.S.next).p:Nat):Int) else q.S.at')=_
  rw[if_pos h.st.2.1,C]
theorem Sim.failB {e p:Nat}(h:Sim L q oi (.bad e p)) (C:Int):Sim L (q.fail L C) oi (.bad e p):=by
 have E:¬q.S.err=0:=by rw[h.st.1];have:=h.st.2.1;omega
 refine⟨h.opn,h.lo,h.hi,?_,h.st.2.1,?_,jN,Nat.le_succ _⟩
 .show(if q.S.err=0 then C else q.S.err)=_
  rw[if_neg E];exact h.st.1
 .show(if q.S.err=0 then(((jE L q.S.next).p:Nat):Int) else q.S.at')=_
  rw[if_neg E];exact h.st.2.2.1
theorem Sim.failN {e p:Nat}{S:PF}{C:Int}{ps:List CP}(h:Sim L ⟨S.fail L C,ps⟩ oi (.bad e p)):Sim L ⟨(S.fail L C).take,ps⟩ oi (.bad e p):=
 ⟨h.opn,h.lo,h.hi,h.st.1,h.st.2.1,h.st.2.2.1,Nat.le_succ _,jN⟩
theorem Sim.want (h:Sim L q oi s) {k:Nat}(hk:k≠0):Sim L (q.want L k) oi (s.tm k):=by
 cases s with
 |ok l o=>
  obtain⟨t,r,rfl⟩:=h.st.2.2.2.1.ne;have C:=h.word;unfold Q.word at C;rw[joA]
  by_cases E:t.k=k
  .rw[if_pos E]
   have:q.want L k=q.take:=by
    unfold Q.want Q.take PF.want;rw[C,if_pos E]
   rw[this];exact h.take (by rw[E];exact hk)
  .rw[if_neg E]
   have:q.want L k=⟨(q.S.fail L 4).take,q.ps⟩:=by
    unfold Q.want PF.want;rw[C,if_neg E]
   rw[this];exact(h.failT 4 (by omega)).failN
 |bad e p=>
  have C:=h.kind0;unfold Q.kind at C
  have:q.want L k=⟨(q.S.fail L 4).take,q.ps⟩:=by
   unfold Q.want PF.want;rw[C,if_neg (fun h=>hk h.symm)]
  rw[this];exact(h.failB 4).failN
theorem Sim.finish (h:Sim L q oi s) (F:1<=oi):Sim L (q.finish L) (oi-1) s.cl:=by
 have C:=h.want (k:=24) (by omega);have e:q.finish L=⟨(q.want L 24).S.shut,q.ps⟩:=rfl;rw[e];have H:=h.lo;have I:=h.hi
 cases s with
 |ok l o=>
  obtain⟨t,r,rfl⟩:=h.st.2.2.2.1.ne;rw[joA]at C;rw[jtY]
  by_cases E:t.k=24
  .rw[if_pos E]at C ⊢
   have:=C.st.2.2.1;have:=C.st.2.2.2.2;exact⟨by show(q.want L 24).S.opn-1=_;rw[C.opn],by omega,by omega,C.st.1,C.st.2.1,by omega,C.st.2.2.2.1,by omega⟩
  .rw[if_neg E]at C ⊢
   exact⟨by show(q.want L 24).S.opn-1=_;rw[C.opn],by omega,by omega,C.st⟩
 |bad e p=>exact⟨by show(q.want L 24).S.opn-1=_;rw[C.opn],by omega,by omega,C.st⟩
def opS (t:Tok) (l:List Tok) (o:Nat):Sg:=if o<12 then .ok l (o+1) else .bad 5 t.p
theorem Sim.beg (h:Sim L q oi (.ok (t ::l) o)) {k:Nat}(hk:t.k=k) (H:k≠0):Sim L (q.beg L 12 k) (oi+1) (opS t l o):=by
 have E:=h.word;unfold Q.word at E;have K:=h.opn;have O:=h.lo;have R:=h.st.2.2.2.2;have I:=h.st.2.2.1;unfold opS
 by_cases F:o<12
 .rw[if_pos F]
  have e:q.beg L 12 k=⟨q.S.wide.take,q.ps⟩:=by
   unfold Q.beg PF.begin PF.beg0;rw[E,if_pos hk,if_neg (by omega)]
  rw[e];have C:=h.take (by rw[hk];exact H);exact⟨by show q.S.opn+1=_;omega,by omega,by omega,C.st.1,C.st.2.1,by omega,C.st.2.2.2.1,by omega⟩
 .rw[if_neg F]
  have e:q.beg L 12 k=⟨(q.S.fail L 5).wide.take,q.ps⟩:=by
   unfold Q.beg PF.begin PF.beg0;rw[E,if_pos hk,if_pos (by omega)]
  rw[e];have C:=(h.failT 5 (by omega)).failN;exact⟨by show q.S.opn+1=_;omega,by omega,by omega,C.st⟩
theorem Sim.begW (h:Sim L q oi (.ok (t ::l) o)) {k:Nat}(hk:t.k=k) (C:(opS t l o).good=true):q.begW L 12 k=t:=by
 have E:=h.word;unfold Q.word at E;have H:=h.opn;have F:=h.st.2.2.1;unfold opS at C
 split at C
 .unfold Q.begW PF.beg0
  rw[if_pos (by rw[E];exact hk),if_neg (by omega)];exact E
 .cases C
theorem Sim.fine (h:Sim L q oi s) (E:L.length<=1000) (C:q.ps.length<=90000):q.fine:=by
 have H:=h.lo;have I:=h.hi;have F:=h.opn;refine⟨?_,by omega,by omega,C⟩
 cases s with
 |ok l o=>
  obtain⟨t,r,rfl⟩:=h.st.2.2.2.1.ne;have:=(drop_at h.st.1).2.2;omega
 |bad e p=>have:=h.st.2.2.2.2;omega
theorem Sim.ps {ps:List CP}(h:Sim L q oi s):Sim L ⟨q.S,ps⟩ oi s:=⟨h.opn,h.lo,h.hi,by cases s <;> exact h.st⟩
theorem Sim.add {c:CP}(h:Sim L q oi s):Sim L (q.add c) oi s:=h.ps
theorem jqq {k:Nat}(h:(s.tm k).good=true):∃t l o,s= .ok (t ::l) o/\t.k=k/\s.tm k= .ok l o:=by
 cases s with
 |bad e p=>cases h
 |ok l o=>
  cases l with
  |nil=>cases h
  |cons t l=>
   have e:(Sg.ok (t ::l) o).tm k=if t.k=k then .ok l o else .bad 4 t.p:=rfl;rw[e]at h ⊢
   by_cases hk:t.k=k
   .exact⟨t,l,o,rfl,hk,if_pos hk⟩
   .rw[if_neg hk]at h;cases h
theorem jBJ (k:Nat) (s:Sg):(s.tm k).pot<=s.pot/\((s.tm k).good=true->(s.tm k).pot+100<=s.pot):=by
 cases s with
 |bad e p=>exact⟨jN,fun h=>by cases h⟩
 |ok l o=>
  cases l with
  |nil=>exact⟨Yi _,fun h=>by cases h⟩
  |cons t l=>
   have e:(Sg.ok (t ::l) o).tm k=if t.k=k then .ok l o else .bad 4 t.p:=rfl;rw[e]
   by_cases hk:t.k=k
   .rw[if_pos hk];exact⟨by simp[Sg.pot];omega,fun _=>by simp[Sg.pot];omega⟩
   .rw[if_neg hk];exact⟨Yi _,fun h=>by cases h⟩
theorem jIp (h:s.cl.good=true):∃t l o,s= .ok (t ::l) o/\t.k=24/\s.cl= .ok l (o-1):=by
 cases s with
 |bad e p=>cases h
 |ok l o=>
  cases l with
  |nil=>cases h
  |cons t l=>
   have e:(Sg.ok (t ::l) o).cl=if t.k=24 then .ok l (o-1) else .bad 4 t.p:=rfl;rw[e]at h ⊢
   by_cases hk:t.k=24
   .exact⟨t,l,o,rfl,hk,if_pos hk⟩
   .rw[if_neg hk]at h;cases h
theorem jIo (s:Sg):s.cl.pot<=s.pot/\(s.cl.good=true->s.cl.pot+100<=s.pot):=by
 cases s with
 |bad e p=>exact⟨jN,fun h=>by cases h⟩
 |ok l o=>
  cases l with
  |nil=>exact⟨Yi _,fun h=>by cases h⟩
  |cons t l=>
   have e:(Sg.ok (t ::l) o).cl=if t.k=24 then .ok l (o-1) else .bad 4 t.p:=rfl;rw[e]
   by_cases hk:t.k=24
   .rw[if_pos hk];exact⟨by simp[Sg.pot];omega,fun _=>by simp[Sg.pot];omega⟩
   .rw[if_neg hk];exact⟨Yi _,fun h=>by cases h⟩
end
def Jx (j:J) (s s':Sg) (v:V):Prop:=
 match s with
 | .bad e p=>s'= .bad e p
 | .ok l o=>(∃l' o',Jb 12 j l o (.ok v l' o')/\s'= .ok l' o')\/(∃e p,Jb 12 j l o (.bad e p)/\s'= .bad e p)
def Sx (ss:List St) (s:Sg) (r:Sl.Res (List V)):Prop:=
 match s with
 | .bad e p=>r= .bad e p
 | .ok l o=>Sq 12 ss l o r
def Fx (fin:List V->joM) (r:Sl.Res (List V)) (s':Sg) (v:V):Prop:=
 match r with
 | .bad e p=>s'= .bad e p
 | .ok vs l' o'=>(fin vs= .out v/\s'= .ok l' o')\/∃j',fin vs= .go j'/\Jx j' (.ok l' o') s' v
variable {j:J}{s':Sg}{v:V}
theorem jnU {t:Tok}{l:List Tok}{o:Nat}(h:Jx j (.ok (t ::l) o) s' v) :
 (jm0 j t.k=none/\s'= .bad 4 t.p)\/∃ss fin r,jm0 j t.k=some (ss,fin)/\Sx ss (.ok (t ::l) o) r/\Fx fin r s' v:=by
 rcases h with⟨l',o',C,rfl⟩|⟨e,p,C,rfl⟩
 .cases C with
  |out h1 h2 h3=>exact .inr ⟨_,_,_,h1,h2,.inl ⟨h3,rfl⟩⟩
  |go h1 h2 h3 h4=>exact .inr ⟨_,_,_,h1,h2,.inr ⟨_,h3,.inl ⟨_,_,h4,rfl⟩⟩⟩
 .cases C with
  |none h1=>exact .inl ⟨h1,rfl⟩
  |bad h1 h2=>exact .inr ⟨_,_,_,h1,h2,rfl⟩
  |go h1 h2 h3 h4=>exact .inr ⟨_,_,_,h1,h2,.inr ⟨_,h3,.inr ⟨_,_,h4,rfl⟩⟩⟩
variable {s:Sg}{r:Sl.Res (List V)}
theorem jnx (h:Sx [] s r):r=s.res:=by
 cases s with
 |bad e p=>exact h
 |ok l o=>cases h;rfl
variable {k:Nat}{ss:List St}
theorem jnS (h:Sx (.tm k ::ss) s r):∃v r',Sx ss (s.tm k) r'/\r=r'.cons v/\∀t l o,s= .ok (t ::l) o->t.k=k->v= .tk t:=by
 cases s with
 |bad e p=>exact⟨.nm [],.bad e p,rfl,h,fun _ _ _ h=>by cases h⟩
 |ok l o=>
  cases h with
  |tm h1 h2=>refine⟨_,_,?_,rfl,fun t l o h3 _=>by injection h3 with h4 _;injection h4 with h5 _;rw[h5]⟩;rw[joA,if_pos h1];exact h2
  |tmBad h1=>refine⟨.nm [],.bad 4 _,?_,rfl,fun t l o h3 h4=>by injection h3 with h5 _;injection h5 with h6 _;subst h6;exact absurd h4 h1⟩;rw[joA,if_neg h1];rfl
theorem js3 (h:Sx (.cl ::ss) s r):∃v r',Sx ss s.cl r'/\r=r'.cons v:=by
 cases s with
 |bad e p=>exact⟨.nm [],.bad e p,rfl,h⟩
 |ok l o=>
  cases h with
  |cl h1 h2=>refine⟨_,_,?_,rfl⟩;rw[jtY,if_pos h1];exact h2
  |clBad h1=>refine⟨.nm [],.bad 4 _,?_,rfl⟩;rw[jtY,if_neg h1];rfl
theorem juQ {t:Tok}{l:List Tok}{o:Nat}(h:Sx (.op k ::ss) (.ok (t ::l) o) r) (hk:t.k=k):∃r',Sx ss (opS t l o) r'/\r=r'.cons (.tk t):=by
 cases h with
 |op h1 h2 h3=>refine⟨_,?_,rfl⟩;unfold opS;rw[if_pos h2];exact h3
 |opBad h1=>exact absurd hk h1
 |opNest h1 h2=>refine⟨.bad 5 _,?_,rfl⟩;unfold opS;rw[if_neg (by omega)];rfl
theorem jnH (h:Sx (.jb j ::ss) s r):∃v r' s',Jx j s s' v/\Sx ss s' r'/\r=r'.cons v:=by
 cases s with
 |bad e p=>exact⟨.nm [],.bad e p,.bad e p,rfl,rfl,h⟩
 |ok l o=>
  cases h with
  |jb h1 h2=>exact⟨_,_,.ok _ _,.inl ⟨_,_,h1,rfl⟩,h2,rfl⟩
  |jbBad h1=>exact⟨.nm [],_,.bad _ _,.inr ⟨_,_,h1,rfl⟩,rfl,rfl⟩
theorem jn6 {fin:List V->joM}{vs:List V}(h:Fx fin (match s with| .ok l o=>.ok vs l o| .bad e p=>.bad e p) s' v) (E:∀j',fin vs≠.go j'):s'=s/\(s.good=true->fin vs= .out v):=by
 cases s with
 |bad e p=>exact⟨h,fun h=>by cases h⟩
 |ok l o=>
  rcases h with⟨C,F⟩|⟨j',C,_⟩
  .exact⟨F,fun _=>C⟩
  .exact absurd C (E j')
theorem jpA {fin:List V->joM}{vs:List V}(h:Fx fin (match s with| .ok l o=>.ok vs l o| .bad e p=>.bad e p) s' v) (E:s.good=true->∀v,fin vs≠.out v):(s.good=false/\s'=s)\/(s.good=true/\∃j',fin vs= .go j'/\Jx j' s s' v):=by
 cases s with
 |bad e p=>exact .inl ⟨rfl,h⟩
 |ok l o=>
  rcases h with⟨C,F⟩|⟨j',C,F⟩
  .exact absurd C (E rfl v)
  .exact .inr ⟨rfl,j',C,F⟩
theorem jn3 (s:Sg) (v:V) (vs:List V):(match s with| .ok l o=>Sl.Res.ok vs l o| .bad e p=>.bad e p).cons v=(match s with| .ok l o=>Sl.Res.ok (v ::vs) l o| .bad e p=>.bad e p):=by cases s <;> rfl
theorem jnT (s:Sg):s.res=(match s with| .ok l o=>Sl.Res.ok [] l o| .bad e p=>.bad e p):=by cases s <;> rfl
variable {L:List Tok}{q:Q}{oi:Int}
theorem jya {e p:Nat}(h:Sim L q oi (.bad e p)) (F:L.length<=1000) (H:q.ps.length<=90000) (m:Md) (W:m= .expr\/m= .cmp\/m= .sum\/m= .prod\/m= .un\/m= .call\/m= .operand\/m= .atom) :
 pr L 12 9 m q=some (-1,q.fail L 4):=by
 have k0:=h.kind0;have Z:=h.failB 4;have E:=Z.kind0;have f0:=h.fine F H;have C:=Z.fine F (show q.ps.length<=90000 from H);have Y:∀n,pr L 12 (n+1) .atom q=some (-1,q.fail L 4):=fun n=>by simp[pr,jm1,f0,k0,out,C]
 have R:∀n,pr L 12 (n+2) .operand q=some (-1,q.fail L 4):=fun n=>by rw[pr,if_pos f0,jm1,Y];simp[bnd,C,pr,jm1,E,out]
 have K:∀n,pr L 12 (n+3) .call q=some (-1,q.fail L 4):=fun n=>by rw[pr,if_pos f0,jm1,R];simp[bnd,C,pr,jm1,k0,E,out,job]
 have U:∀n,pr L 12 (n+4) .un q=some (-1,q.fail L 4):=fun n=>by rw[pr,if_pos f0,jm1,K];simp[k0]
 have O:∀n,pr L 12 (n+5) .prod q=some (-1,q.fail L 4):=fun n=>by rw[pr,if_pos f0,jm1,U];simp[bnd,C,pr,jm1,k0,E,out,cOp]
 have p6:∀n,pr L 12 (n+6) .sum q=some (-1,q.fail L 4):=fun n=>by rw[pr,if_pos f0,jm1,O];simp[bnd,C,pr,jm1,k0,E,out,cOp]
 have I:∀n,pr L 12 (n+7) .cmp q=some (-1,q.fail L 4):=fun n=>by rw[pr,if_pos f0,jm1,p6];simp[bnd,C,pr,jm1,k0,E,out,cOp]
 have p8:∀n,pr L 12 (n+8) .seq q=some (-1,q.fail L 4):=fun n=>by rw[pr,if_pos f0,jm1,I];simp[bnd,C,pr,jm1,k0,E,out,cOp]
 have p9:∀n,pr L 12 (n+9) .expr q=some (-1,q.fail L 4):=fun n=>by rw[pr,if_pos f0,jm1,p8];simp[k0]
 rcases W with rfl|rfl|rfl|rfl|rfl|rfl|rfl|rfl
 .exact p9 0
 .exact I 2
 .exact p6 3
 .exact O 4
 .exact U 5
 .exact K 6
 .exact R 7
 .exact Y 8
def wdO (k s:Nat):Nat:=
 match k with
 |2=>11
 |3=>12
 |4=>13
 |8|9|10=>3
 |11=>6
 |12=>9
 |13=>31
 |14=>10
 |15|16|17=>s
 |18=>26
 |20=>18
 |21=>14
 |22=>15
 |23=>16
 |24=>17
 |_=>0
mutual
def Rep (ps:List CP):Int->T->Prop
 |i,.nd _ k s n xs kids=>if k=25 then i= -1 else ∃(j:Nat) (c:CP),i=j/\ps[j]? =some c/\c.k=k/\c.wd=wdO k s/\(k=1->c.nm=n)/\c.ns=(if k=10 then jn2 kids else xs)/\jnr ps j (if k=10 then -1 ::c.ks else c.ks) kids
def jnr (ps:List CP) (j:Nat):List Int->List T->Prop
 |i ::is,c ::cs=>i<j/\Rep ps i c/\jnr ps j is cs
 |[],[]=>True
 |_,_=>False
end
mutual
theorem Rep.ext {ps:List CP}(z:List CP):∀(c:T) (i:Int),Rep ps i c->Rep (ps ++z) i c
 | .nd _ k s n xs kids,i,h=>by
   rw[Rep]at h ⊢
   split at h
   .rw[if_pos (by assumption)];exact h
   .rw[if_neg (by assumption)]
    obtain⟨j,c,I,C,F,E,K,H,O⟩:=h;refine⟨j,c,I,?_,F,E,K,H,jnr.ext z kids _ _ O⟩;rw[Kb (by have:=(jG C).1;exact this)];exact C
theorem jnr.ext {ps:List CP}(z:List CP):∀(cs:List T) (j:Nat) (is:List Int),jnr ps j is cs->jnr (ps ++z) j is cs
 |[],j,is,h=>by
  cases is with
  |nil=>trivial
  |cons _ _=>rw[jnr]at h;exact h.elim;all_goals (intros;simp_all)
 |c ::cs,j,is,h=>by
  cases is with
  |nil=>rw[jnr]at h;exact h.elim;all_goals (intros;simp_all)
  |cons i is=>rw[jnr]at h ⊢;exact⟨h.1,Rep.ext z c i h.2.1,jnr.ext z cs j is h.2.2⟩
end
theorem Rep.lt {ps:List CP}{i:Int}{c:T}(h:Rep ps i c) (C:c.k≠25):0<=i/\i<ps.length:=by
 cases c with
 |nd b k s n xs kids=>
  have C:k≠25:=C;rw[Rep,if_neg C]at h;obtain⟨j,c,rfl,E,_⟩:=h;have:=(jG E).1;omega
variable {c:T}
theorem jDA {ps:List CP}{i:Int}:Rep ps i (brk c)↔Rep ps i c:=by cases c;exact Iff.rfl
def Sg.g:Sg->Nat
 | .ok _ _=>1
 | .bad _ _=>0
theorem jnq (s:Sg):s.g<=1:=by cases s <;> simp[Sg.g]
theorem jGd (h:s.g=0):s.pot=0:=by cases s with|ok _ _=>cases h|bad _ _=>rfl
theorem jnk :s.good=true↔s.g=1:=by cases s <;> simp[Sg.g,Sg.good]
theorem jo0 (k:Nat) (s:Sg):(s.tm k).pot+100*(s.tm k).g<=s.pot/\(s.tm k).g<=s.g/\s.pot<=1000000*s.pot:=by
 have h:=jBJ k s;refine⟨?_,?_,by omega⟩
 .have h1:=jnq (s.tm k)
  by_cases C:(s.tm k).g=1
  .have:=h.2 (jnk.2 C);omega
  .have:=h.1;omega
 .by_cases C:(s.tm k).g=1
  .obtain⟨t,l,o,rfl,_⟩:=jqq (jnk.2 C);rw[C];exact jN
  .have:=jnq (s.tm k);omega
theorem jwA (s:Sg):s.cl.pot+100*s.cl.g<=s.pot/\s.cl.g<=s.g:=by
 have h:=jIo s;refine⟨?_,?_⟩
 .have h1:=jnq s.cl
  by_cases C:s.cl.g=1
  .have:=h.2 (jnk.2 C);omega
  .have:=h.1;omega
 .by_cases C:s.cl.g=1
  .obtain⟨t,l,o,rfl,_⟩:=jIp (jnk.2 C);rw[C];exact jN
  .have:=jnq s.cl;omega
theorem jvv (t:Tok) (l:List Tok) (o:Nat):(opS t l o).pot<=100*l.length/\(opS t l o).g<=1/\((opS t l o).g=1->opS t l o= .ok l (o+1)):=by
 unfold opS
 split
 .exact⟨jN,jN,fun _=>rfl⟩
 .exact⟨Yi _,Yi _,fun h=>by cases h⟩
structure Got (L:List Tok) (q q':Q) (x oi:Int) (s s':Sg) (v:V) (lv dn up:Nat):Prop where
 sim:Sim L q' oi s'
 ext:∃z,q'.ps=q.ps ++z
 rep:s'.g=1->∃c,v= .tr c/\Rep q'.ps x c/\c.k≠25
 mon:s'.g<=s.g
 bnd:q'.ps.length+s'.pot+(dn+lv+1)*s'.g<=q.ps.length+s.pot+up*s'.g+(lv+1)*s.g
variable {x:Int}{lv dn:Nat}
theorem Got.len {q':Q}{up:Nat}(h:Got L q q' x oi s s' v lv dn up):q.ps.length<=q'.ps.length:=by
 obtain⟨z,C⟩:=h.ext;rw[C];simp
def Does (L:List Tok) (q:Q) (m:Md) (s s':Sg) (v:V) (oi oi':Int) (lv dn up:Nat):Prop:=∃n x q',pr L 12 n m q=some (x,q')/\Got L q q' x oi' s s' v lv dn up
variable {a b:List CP}
theorem jof {c:List CP}(h:∃z,b=a ++z) (C:∃z,c=b ++z):∃z,c=a ++z:=by
 obtain⟨z,rfl⟩:=h;obtain⟨y,rfl⟩:=C;exact⟨z ++y,by rw[Yu]⟩
theorem Rep.up {i:Int}(h:Rep a i c) (he:∃z,b=a ++z):Rep b i c:=by
 obtain⟨z,rfl⟩:=he;exact Rep.ext z c i h
theorem jnr.wide {ps:List CP}:∀(cs:List T) (j j':Nat) (is:List Int),j<=j'->jnr ps j is cs->jnr ps j' is cs
 |[],j,j',is,hj,h=>by
  cases is with
  |nil=>trivial
  |cons _ _=>rw[jnr]at h;exact h.elim;all_goals (intros;simp_all)
 |c ::cs,j,j',is,hj,h=>by
  cases is with
  |nil=>rw[jnr]at h;exact h.elim;all_goals (intros;simp_all)
  |cons i is=>rw[jnr]at h ⊢;exact⟨by omega,h.2.1,jnr.wide cs j j' is hj h.2.2⟩
theorem jnr.up {is:List Int}{C:List T}(h:jnr a a.length is C) (he:∃z,b=a ++z):jnr b b.length is C:=by
 obtain⟨z,rfl⟩:=he;exact jnr.wide _ _ _ _ (by simp) (jnr.ext z C _ _ h)
theorem jnr.snoc {ps:List CP}{j:Nat}{i:Int}{c:T}(hi:i<j) (C:Rep ps i c):∀(cs:List T) (is:List Int),jnr ps j is cs->jnr ps j (is ++[i]) (cs ++[c])
 |[],is,h=>by
  cases is with
  |nil=>exact⟨hi,C,trivial⟩
  |cons _ _=>rw[jnr]at h;exact h.elim;all_goals (intros;simp_all)
 |c' ::cs,is,h=>by
  cases is with
  |nil=>rw[jnr]at h;exact h.elim;all_goals (intros;simp_all)
  |cons i' is=>rw[jnr]at h;exact⟨h.1,h.2.1,jnr.snoc hi C cs is h.2.2⟩
theorem jnr.len {ps:List CP}{j:Nat}:∀(cs:List T) (is:List Int),jnr ps j is cs->is.length=cs.length
 |[],is,h=>by
  cases is with
  |nil=>rfl
  |cons _ _=>rw[jnr]at h;exact h.elim;all_goals (intros;simp_all)
 |c' ::cs,is,h=>by
  cases is with
  |nil=>rw[jnr]at h;exact h.elim;all_goals (intros;simp_all)
  |cons i' is=>rw[jnr]at h;simp[jnr.len cs is h.2.2]
theorem joo {ps:List CP}{c:CP}{b s n:Nat}{xs:List ByteArray}{kids:List T}(hk:c.k=k) (E:k≠25) (H:c.wd=wdO k s) (I:k=1->c.nm=n) (C:c.ns=(if k=10 then jn2 kids else xs)) (F:jnr ps ps.length (if k=10 then -1 ::c.ks else c.ks) kids):Rep (ps ++[c]) ps.length (.nd b k s n xs kids):=by
 rw[Rep,if_neg E];exact⟨ps.length,c,rfl,by simp,hk,H,I,C,jnr.ext _ _ _ _ F⟩
theorem jqO {ps:List CP}{a:T}(h:Rep ps x a) (C:a.k≠25):jnr ps ps.length [x] [a]:=⟨(h.lt C).2,h,trivial⟩
theorem jqe {ps:List CP}{y:Int}{a b:T}(h:Rep ps x a) (E:a.k≠25) (F:Rep ps y b) (C:b.k≠25):jnr ps ps.length [x,y] [a,b]:=⟨(h.lt E).2,h,jqO F C⟩
theorem jx1 {ps:List CP}{y z:Int}{a b:T}(h:Rep ps x a) (F:a.k≠25) (I:Rep ps y b) (E:b.k≠25) (H:Rep ps z c) (C:c.k≠25):jnr ps ps.length [x,y,z] [a,b,c]:=⟨(h.lt F).2,h,jqe I E H C⟩
theorem jox {q3:Q}{C:Sg}{up:Nat}{c:CP}(hs:Sim L q3 oi C) (he:∃z,q3.ps=q.ps ++z) (F:C.g=1->∃cc,v= .tr cc/\Rep (q3.ps ++[c]) q3.ps.length cc/\cc.k≠25) (E:C.g<=s.g)
 (H:q3.ps.length+1+C.pot+(dn+lv+1)*C.g<=q.ps.length+s.pot+up*C.g+(lv+1)*s.g):Got L q (q3.add c) q3.ps.length oi s C v lv dn up:=
 ⟨hs.add,jof he ⟨[c],rfl⟩,F,E,by show(q3.ps ++[c]).length+_+_<=_;simp only[Yg,Yk,List.length_nil];omega⟩
theorem jHe {m:Md}{up e p:Nat}(H:L.length<=1000) (F:m= .expr\/m= .cmp\/m= .sum\/m= .prod\/m= .un\/m= .call\/m= .operand\/m= .atom) (he:s= .bad e p) (E:Jx j s s' v) (C:Sim L q oi s) (K:q.ps.length+s.pot+5000*s.g<=85000):Does L q m s s' v oi oi lv dn up:=by
 subst he;have hs:s'= .bad e p:=E;subst hs;have I:q.ps.length<=90000:=by omega
 exact⟨9,-1,q.fail L 4,jya C H I m F,C.failB 4,⟨[],by simp[Q.fail]⟩,fun h=>(by cases h),jN,(by simp[Sg.g,Sg.pot,Q.fail])⟩
def tj:J->Bool
 | .expr| .cmp| .sum| .prod| .sign| .call| .operand| .atom=>true
 |_=>false
def jm9d:J->Md
 | .expr=>.expr
 | .cmp=>.cmp
 | .sum=>.sum
 | .prod=>.prod
 | .sign=>.un
 | .call=>.call
 | .operand=>.operand
 |_=>.atom
def jlv:J->Nat
 | .expr=>20
 | .cmp=>16
 | .sum=>14
 | .prod=>12
 | .sign=>10
 | .call=>8
 | .operand=>4
 |_=>2
def jdn:J->Nat
 | .operand| .atom=>50
 |_=>40
structure Al (L:List Tok) (M:Nat):Prop where
 tr:∀j,tj j=true->∀{s s':Sg}{v:V}{q:Q}{oi:Int},Jx j s s' v->Sim L q oi s->q.ps.length+s.pot+5000*s.g<=85000->s.pot+jlv j<M->Does L q (jm9d j) s s' v oi oi (jlv j) (jdn j) 0
 terms:∀{a:T}{i:Int}{s s':Sg}{v:V}{q:Q}{oi:Int},Jx (.terms a) s s' v->Sim L q oi s->Rep q.ps i a->a.k≠25->s.g=1->q.ps.length+s.pot+5000*s.g<=85000->s.pot<M->Does L q (.sumL i) s s' v oi oi 5 0 0
 facs:∀{a:T}{i:Int}{s s':Sg}{v:V}{q:Q}{oi:Int},Jx (.facs a) s s' v->Sim L q oi s->Rep q.ps i a->a.k≠25->s.g=1->q.ps.length+s.pot+5000*s.g<=85000->s.pot<M->Does L q (.prodL i) s s' v oi oi 5 0 0
 index:∀{a:T}{i:Int}{s s':Sg}{v:V}{q:Q}{oi:Int},Jx (.index a) s s' v->Sim L q oi s->Rep q.ps i a->a.k≠25->s.g=1->q.ps.length+s.pot+5000*s.g<=85000->s.pot<M->Does L q (.operL i) s s' v oi oi 5 0 0
 args:∀{zs:List T}{ks:List Int}{m:Nat}{s s':Sg}{v:V}{q:Q}{oi:Int},Jx (.args m zs) s s' v->Sim L q oi s->jnr q.ps q.ps.length ks zs->(∀c ∈ zs,c.k≠25)->m+ks.length=5->ks≠[]->s.g=1->q.ps.length+s.pot+5000*s.g<=85000->s.pot+6<M->Does L q (.callL ks) s s' v oi oi 6 0 1
 items:∀{zs:List T}{ks:List Int}{m:Nat}{t:Tok}{s s':Sg}{v:V}{q:Q}{oi:Int},Jx (.items m zs) s s' v->Sim L q oi s->jnr q.ps q.ps.length ks zs->(∀c ∈ zs,c.k≠25)->m+ks.length=6->ks≠[]->s.g=1->1<=oi->q.ps.length+s.pot+5000*s.g<=85000->s.pot<M->Does L q (.tupL t ks) s s' v oi (oi-1) 5 0 0
section
variable {L:List Tok}{M:Nat}{s s':Sg}{v:V}{q:Q}{oi:Int}
theorem jmB (l:List Tok) (o:Nat):(Sg.ok l o).g=1:=rfl
theorem jm2 (t:Tok) (l:List Tok) (o:Nat):(Sg.ok (t ::l) o).pot=100*l.length+100:=by simp[Sg.pot];omega
theorem jo2 (l:List Tok) (o:Nat):(Sg.ok l o).pot=100*l.length:=rfl
theorem jre {n k c:Nat}{t:Tok}{ks:List Int}{x:Int}{q1:Q}(C:q.fine) (E:ks.length<c) (h:pr L 12 n .operand q=some (x,q1)) (F:q1.fine):pr L 12 (n+1) (.prefL k c t ks) q=pr L 12 n (.prefL k c t (ks ++[x])) q1:=by
 rw[pr,if_pos C,jm1,if_pos E,h];simp only[bnd,if_pos F]
theorem jrf {n k c:Nat}{t:Tok}{ks:List Int}(C:q.fine) (E:¬ks.length<c):pr L 12 (n+1) (.prefL k c t ks) q=some ((q.ps.length:Int),q.add ⟨k,t.p,t.k,0,[],ks⟩):=by
 rw[pr,if_pos C,jm1,if_neg E];simp only[jnu,if_pos C]
theorem jrc {n k c:Nat}(C:q.fine):pr L 12 (n+1) (.pref k c) q=pr L 12 n (.prefL k c (q.word L) []) q.take:=by
 rw[pr,if_pos C];rfl
theorem jHz (R:L.length<=1000) (A:Al L M) {t:Tok}{r:List Tok}{o:Nat}(hJ:Jx .expr (.ok (t ::r) o) s' v) (C:t.k=6) (Y:Sim L q oi (.ok (t ::r) o)) (hP:q.ps.length+(Sg.ok (t ::r) o).pot+5000*(Sg.ok (t ::r) o).g<=85000) (hM:(Sg.ok (t ::r) o).pot+20<M+1):Does L q .expr (.ok (t ::r) o) s' v oi oi 20 40 0:=by
 have hk:=Y.kind;have hw:=Y.word;rw[jm2,jmB]at hP;rw[jm2]at hM
 rcases jnU hJ with⟨h,_⟩|⟨ss,fin,r0,hx,hs,hf⟩
 .rw[C]at h;cases h
 rw[C]at hx;cases hx;obtain⟨v0,r0,W,rfl,h4⟩:=jnS hs;rw[joA,if_pos C]at W;have S0:=Y.take (by omega);have z0:q.take.ps.length=q.ps.length:=rfl;have k7:=h4 t r o rfl C
 obtain⟨K,F⟩:∃K,K=Sg.ok r o:=⟨_,rfl⟩
 have k9:K.pot=100*r.length:=by rw[F];rfl
 have q6:K.g=1:=by rw[F];rfl
 rw[<-F]at W S0;obtain⟨v1,r1,s1,j1,h9,rfl⟩:=jnH W;obtain⟨n1,x1,q1,Z,H⟩:=A.tr .expr rfl j1 S0 (by omega) (by simp only[jlv];omega);have m1:=H.mon;have l1:=H.len;have b1:=H.bnd;simp only[jlv,jdn,jm9d]at b1 Z;have y1:=jnq s1;obtain⟨v2,r2,h2,rfl,q4⟩:=jnS h9;have S2:=H.sim.want (k:=7) (by omega);obtain⟨c2,d2,-⟩:=jo0 7 s1;have z2:((q1).want L 7).ps.length=(q1).ps.length:=rfl;obtain⟨v3,r3,s3,j3,h8,rfl⟩:=jnH h2;obtain⟨U,x3,q3,p3,I⟩:=A.tr .expr rfl j3 S2 (by omega) (by simp only[jlv];omega);have m3:=I.mon;have l3:=I.len;have b3:=I.bnd;simp only[jlv,jdn,jm9d]at b3 p3;have y3:=jnq s3;obtain⟨v4,r4,k1,rfl,k8⟩:=jnS h8;have S4:=I.sim.want (k:=8) (by omega);obtain⟨c4,d4,-⟩:=jo0 8 s3;have z4:((q3).want L 8).ps.length=(q3).ps.length:=rfl;obtain⟨v5,r5,s5,j5,h3,rfl⟩:=jnH k1;obtain⟨n5,x5,q5,p5,E⟩:=A.tr .expr rfl j5 S4 (by omega) (by simp only[jlv];omega);have m5:=E.mon;have l5:=E.len;have b5:=E.bnd;simp only[jlv,jdn,jm9d]at b5 p5;have y5:=jnq s5;have hr:=jnx h3;subst hr;simp only[jnT,jn3]at hf;have Z:=jnj (show n1<=n1+U+n5 by omega) Z;have p3:=jnj (show U<=n1+U+n5 by omega) p3;have p5:=jnj (show n5<=n1+U+n5 by omega) p5;obtain⟨rfl,h0⟩:=jn6 hf (fun j' h=>by split at h <;> simp[nop]at h);have f0:=Y.fine R (by omega);have f1:=H.sim.fine R (by omega);have f3:=I.sim.fine R (by omega);have f5:=E.sim.fine R (by omega);refine⟨n1+U+n5+2,q5.ps.length,q5.add ⟨11,t.p,t.k,0,[],[x1,x3,x5]⟩,?_,?_⟩
 .simp[pr,jm1,f0,hk,C,Z,p3,p5,bnd,f1,f3,f5,jnu,hw]
 .have x12:∃z,q3.ps=q1.ps ++z:=I.ext
  have O:∃z,q5.ps=q3.ps ++z:=E.ext;refine jox E.sim (jof H.ext (jof x12 O)) (fun hg=>?_) (by rw[jmB];omega) (by rw[jm2,jmB];omega);obtain⟨a1,rfl,h1,k5⟩:=H.rep (by omega);obtain⟨a2,rfl,k4,h5⟩:=I.rep (by omega);obtain⟨a3,rfl,h7,k2⟩:=E.rep hg;have ho:=h0 (jnk.2 hg);injection ho with ho
  exact⟨_,ho.symm,joo rfl (by omega) (by rw[C];rfl) (fun h=>by omega) rfl (jx1 (h1.up (jof x12 O)) k5 (k4.up O) h5 h7 k2),by show(11:Nat)≠25;omega⟩
theorem jHt (U:L.length<=1000) (A:Al L M) {t:Tok}{r:List Tok}{o:Nat}(hJ:Jx .sign (.ok (t ::r) o) s' v) (C:t.k=31) (K:Sim L q oi (.ok (t ::r) o)) (hP:q.ps.length+(Sg.ok (t ::r) o).pot+5000*(Sg.ok (t ::r) o).g<=85000) (hM:(Sg.ok (t ::r) o).pot+10<M+1):Does L q .un (.ok (t ::r) o) s' v oi oi 10 40 0:=by
 have hk:=K.kind;have hw:=K.word;rw[jm2,jmB]at hP;rw[jm2]at hM
 rcases jnU hJ with⟨h,_⟩|⟨ss,fin,r0,hx,hs,hf⟩
 .rw[C]at h;cases h
 rw[C]at hx;cases hx;obtain⟨v0,r0,I,rfl,h0⟩:=jnS hs;rw[joA,if_pos C]at I;have S0:=K.take (by omega);have z0:q.take.ps.length=q.ps.length:=rfl;have h2:=h0 t r o rfl C
 obtain⟨H,F⟩:∃H,H=Sg.ok r o:=⟨_,rfl⟩
 have h3:H.pot=100*r.length:=by rw[F];rfl
 have h4:H.g=1:=by rw[F];rfl
 rw[<-F]at I S0;obtain⟨v1,r1,s1,j1,Z,rfl⟩:=jnH I;obtain⟨n1,x1,q1,O,E⟩:=A.tr .sign rfl j1 S0 (by omega) (by simp only[jlv];omega);have m1:=E.mon;have l1:=E.len;have b1:=E.bnd;simp only[jlv,jdn,jm9d]at b1 O;have y1:=jnq s1;have hr:=jnx Z;subst hr;simp only[jnT,jn3]at hf;have O:=jnj (show n1<=n1 by omega) O;obtain⟨rfl,R⟩:=jn6 hf (fun j' h=>by split at h <;> simp[nop]at h);have f0:=K.fine U (by omega);have f1:=E.sim.fine U (by omega);refine⟨n1+1,q1.ps.length,q1.add ⟨13,t.p,t.k,0,[],[x1]⟩,?_,?_⟩
 .simp[pr,jm1,f0,hk,C,O,bnd,f1,jnu,hw]
 .refine jox E.sim E.ext (fun hg=>?_) (by rw[jmB];omega) (by rw[jm2,jmB];omega)
  obtain⟨a1,rfl,Y,h1⟩:=E.rep hg;have W:=R (jnk.2 hg);injection W with W
  exact⟨_,W.symm,joo rfl (by omega) (by rw[C];rfl) (fun h=>by omega) rfl (jqO Y h1),by show(13:Nat)≠25;omega⟩
theorem jHr (U:L.length<=1000) (A:Al L M) {t:Tok}{r:List Tok}{o:Nat}(hJ:Jx .sign (.ok (t ::r) o) s' v) (C:t.k=10) (K:Sim L q oi (.ok (t ::r) o)) (hP:q.ps.length+(Sg.ok (t ::r) o).pot+5000*(Sg.ok (t ::r) o).g<=85000) (hM:(Sg.ok (t ::r) o).pot+10<M+1):Does L q .un (.ok (t ::r) o) s' v oi oi 10 40 0:=by
 have hk:=K.kind;have hw:=K.word;rw[jm2,jmB]at hP;rw[jm2]at hM
 rcases jnU hJ with⟨h,_⟩|⟨ss,fin,r0,hx,hs,hf⟩
 .rw[C]at h;cases h
 rw[C]at hx;cases hx;obtain⟨v0,r0,I,rfl,h0⟩:=jnS hs;rw[joA,if_pos C]at I;have S0:=K.take (by omega);have z0:q.take.ps.length=q.ps.length:=rfl;have h2:=h0 t r o rfl C
 obtain⟨H,F⟩:∃H,H=Sg.ok r o:=⟨_,rfl⟩
 have h3:H.pot=100*r.length:=by rw[F];rfl
 have h4:H.g=1:=by rw[F];rfl
 rw[<-F]at I S0;obtain⟨v1,r1,s1,j1,Z,rfl⟩:=jnH I;obtain⟨n1,x1,q1,O,E⟩:=A.tr .sign rfl j1 S0 (by omega) (by simp only[jlv];omega);have m1:=E.mon;have l1:=E.len;have b1:=E.bnd;simp only[jlv,jdn,jm9d]at b1 O;have y1:=jnq s1;have hr:=jnx Z;subst hr;simp only[jnT,jn3]at hf;have O:=jnj (show n1<=n1 by omega) O;obtain⟨rfl,R⟩:=jn6 hf (fun j' h=>by split at h <;> simp[nop]at h);have f0:=K.fine U (by omega);have f1:=E.sim.fine U (by omega);refine⟨n1+1,q1.ps.length,q1.add ⟨14,t.p,t.k,0,[],[x1]⟩,?_,?_⟩
 .simp[pr,jm1,f0,hk,C,O,bnd,f1,jnu,hw]
 .refine jox E.sim E.ext (fun hg=>?_) (by rw[jmB];omega) (by rw[jm2,jmB];omega)
  obtain⟨a1,rfl,Y,h1⟩:=E.rep hg;have W:=R (jnk.2 hg);injection W with W
  exact⟨_,W.symm,joo rfl (by omega) (by rw[C];rfl) (fun h=>by omega) rfl (jqO Y h1),by show(14:Nat)≠25;omega⟩
theorem jHn (O:L.length<=1000) (A:Al L M) {t:Tok}{r:List Tok}{o:Nat}(hJ:Jx .call (.ok (t ::r) o) s' v) (C:t.k=14) (I:Sim L q oi (.ok (t ::r) o)) (hP:q.ps.length+(Sg.ok (t ::r) o).pot+5000*(Sg.ok (t ::r) o).g<=85000) (hM:(Sg.ok (t ::r) o).pot+8<M+1):Does L q .call (.ok (t ::r) o) s' v oi oi 8 40 0:=by
 have hk:=I.kind;have hw:=I.word;rw[jm2,jmB]at hP;rw[jm2]at hM
 rcases jnU hJ with⟨h,_⟩|⟨ss,fin,r0,hx,hs,hf⟩
 .rw[C]at h;cases h
 rw[C]at hx;cases hx;obtain⟨v0,r0,K,rfl,h2⟩:=jnS hs;rw[joA,if_pos C]at K;have S0:=I.take (by omega);have z0:q.take.ps.length=q.ps.length:=rfl;have h4:=h2 t r o rfl C
 obtain⟨H,F⟩:∃H,H=Sg.ok r o:=⟨_,rfl⟩
 have h5:H.pot=100*r.length:=by rw[F];rfl
 have h7:H.g=1:=by rw[F];rfl
 rw[<-F]at K S0;obtain⟨v1,r1,s1,j1,h0,rfl⟩:=jnH K;obtain⟨n1,x1,q1,R,E⟩:=A.tr .operand rfl j1 S0 (by omega) (by simp only[jlv];omega);have m1:=E.mon;have l1:=E.len;have b1:=E.bnd;simp only[jlv,jdn,jm9d]at b1 R;have y1:=jnq s1;have hr:=jnx h0;subst hr;simp only[jnT,jn3]at hf;have R:=jnj (show n1<=n1 by omega) R;obtain⟨rfl,U⟩:=jn6 hf (fun j' h=>by split at h <;> simp[nop]at h);have f0:=I.fine O (by omega);have h1:=(I.take (by omega)).fine O (show q.ps.length<=90000 by omega);have Y:=E.sim.fine O (by omega);refine⟨n1+4,q1.ps.length,q1.add ⟨21,t.p,t.k,0,[],[x1]⟩,?_,?_⟩
 .rw[pr,if_pos f0,jm1]
  rw[hk,C];simp only[show(14:Nat)=14↔True from by decide,show(14:Nat)=15↔False from by decide,show(14:Nat)=16↔False from by decide,show(14:Nat)=17↔False from by decide,if_true,if_false];rw[jrc f0];rw[jre h1 (by simp) (jnj (show n1<=n1+1 by omega) R) Y];rw[jrf Y (by simp),hw,C];rfl
 .have _h0:=True.intro
  refine jox E.sim E.ext (fun hg=>?_) (by rw[jmB];omega) (by rw[jm2,jmB];omega);obtain⟨a1,rfl,Z,h3⟩:=E.rep (by omega);have W:=U (jnk.2 hg);injection W with W
  exact⟨_,W.symm,joo rfl (by omega) (by rw[C];rfl) (fun h=>by omega) rfl (jqO Z h3),by show(21:Nat)≠25;omega⟩
theorem jHv (O:L.length<=1000) (A:Al L M) {t:Tok}{r:List Tok}{o:Nat}(hJ:Jx .call (.ok (t ::r) o) s' v) (C:t.k=15) (I:Sim L q oi (.ok (t ::r) o)) (hP:q.ps.length+(Sg.ok (t ::r) o).pot+5000*(Sg.ok (t ::r) o).g<=85000) (hM:(Sg.ok (t ::r) o).pot+8<M+1):Does L q .call (.ok (t ::r) o) s' v oi oi 8 40 0:=by
 have hk:=I.kind;have hw:=I.word;rw[jm2,jmB]at hP;rw[jm2]at hM
 rcases jnU hJ with⟨h,_⟩|⟨ss,fin,r0,hx,hs,hf⟩
 .rw[C]at h;cases h
 rw[C]at hx;cases hx;obtain⟨v0,r0,K,rfl,h2⟩:=jnS hs;rw[joA,if_pos C]at K;have S0:=I.take (by omega);have z0:q.take.ps.length=q.ps.length:=rfl;have h4:=h2 t r o rfl C
 obtain⟨H,F⟩:∃H,H=Sg.ok r o:=⟨_,rfl⟩
 have h5:H.pot=100*r.length:=by rw[F];rfl
 have h7:H.g=1:=by rw[F];rfl
 rw[<-F]at K S0;obtain⟨v1,r1,s1,j1,h0,rfl⟩:=jnH K;obtain⟨n1,x1,q1,R,E⟩:=A.tr .operand rfl j1 S0 (by omega) (by simp only[jlv];omega);have m1:=E.mon;have l1:=E.len;have b1:=E.bnd;simp only[jlv,jdn,jm9d]at b1 R;have y1:=jnq s1;have hr:=jnx h0;subst hr;simp only[jnT,jn3]at hf;have R:=jnj (show n1<=n1 by omega) R;obtain⟨rfl,U⟩:=jn6 hf (fun j' h=>by split at h <;> simp[nop]at h);have f0:=I.fine O (by omega);have h1:=(I.take (by omega)).fine O (show q.ps.length<=90000 by omega);have Y:=E.sim.fine O (by omega);refine⟨n1+4,q1.ps.length,q1.add ⟨22,t.p,t.k,0,[],[x1]⟩,?_,?_⟩
 .rw[pr,if_pos f0,jm1]
  rw[hk,C];simp only[show(15:Nat)=14↔False from by decide,show(15:Nat)=15↔True from by decide,show(15:Nat)=16↔False from by decide,show(15:Nat)=17↔False from by decide,if_true,if_false];rw[jrc f0];rw[jre h1 (by simp) (jnj (show n1<=n1+1 by omega) R) Y];rw[jrf Y (by simp),hw,C];rfl
 .have _h0:=True.intro
  refine jox E.sim E.ext (fun hg=>?_) (by rw[jmB];omega) (by rw[jm2,jmB];omega);obtain⟨a1,rfl,Z,h3⟩:=E.rep (by omega);have W:=U (jnk.2 hg);injection W with W
  exact⟨_,W.symm,joo rfl (by omega) (by rw[C];rfl) (fun h=>by omega) rfl (jqO Z h3),by show(22:Nat)≠25;omega⟩
theorem jHE (O:L.length<=1000) (A:Al L M) {t:Tok}{r:List Tok}{o:Nat}(hJ:Jx .call (.ok (t ::r) o) s' v) (C:t.k=16) (K:Sim L q oi (.ok (t ::r) o)) (hP:q.ps.length+(Sg.ok (t ::r) o).pot+5000*(Sg.ok (t ::r) o).g<=85000) (hM:(Sg.ok (t ::r) o).pot+8<M+1):Does L q .call (.ok (t ::r) o) s' v oi oi 8 40 0:=by
 have hk:=K.kind;have hw:=K.word;rw[jm2,jmB]at hP;rw[jm2]at hM
 rcases jnU hJ with⟨h,_⟩|⟨ss,fin,r0,hx,hs,hf⟩
 .rw[C]at h;cases h
 rw[C]at hx;cases hx;obtain⟨v0,r0,R,rfl,h4⟩:=jnS hs;rw[joA,if_pos C]at R;have S0:=K.take (by omega);have z0:q.take.ps.length=q.ps.length:=rfl;have h9:=h4 t r o rfl C
 obtain⟨I,H⟩:∃I,I=Sg.ok r o:=⟨_,rfl⟩
 have k2:I.pot=100*r.length:=by rw[H];rfl
 have k1:I.g=1:=by rw[H];rfl
 rw[<-H]at R S0;obtain⟨v1,r1,s1,j1,h1,rfl⟩:=jnH R;obtain⟨n1,x1,q1,U,F⟩:=A.tr .operand rfl j1 S0 (by omega) (by simp only[jlv];omega);have m1:=F.mon;have l1:=F.len;have b1:=F.bnd;simp only[jlv,jdn,jm9d]at b1 U;have y1:=jnq s1;obtain⟨v2,r2,s2,j2,h3,rfl⟩:=jnH h1;obtain⟨n2,x2,q2,W,E⟩:=A.tr .operand rfl j2 F.sim (by omega) (by simp only[jlv];omega);have m2:=E.mon;have l2:=E.len;have b2:=E.bnd;simp only[jlv,jdn,jm9d]at b2 W;have y2:=jnq s2;have hr:=jnx h3;subst hr;simp only[jnT,jn3]at hf;have U:=jnj (show n1<=n1+n2 by omega) U;have W:=jnj (show n2<=n1+n2 by omega) W;obtain⟨rfl,Z⟩:=jn6 hf (fun j' h=>by split at h <;> simp[nop]at h);have f0:=K.fine O (by omega);have h2:=(K.take (by omega)).fine O (show q.ps.length<=90000 by omega);have f1:=F.sim.fine O (by omega);have f2:=E.sim.fine O (by omega);refine⟨n1+n2+5,q2.ps.length,q2.add ⟨23,t.p,t.k,0,[],[x1,x2]⟩,?_,?_⟩
 .rw[pr,if_pos f0,jm1]
  rw[hk,C];simp only[show(16:Nat)=14↔False from by decide,show(16:Nat)=15↔False from by decide,show(16:Nat)=16↔True from by decide,show(16:Nat)=17↔False from by decide,if_true,if_false];rw[jrc f0];rw[jre h2 (by simp) (jnj (show n1+n2<=n1+n2+2 by omega) U) f1];rw[jre f1 (by simp) (jnj (show n1+n2<=n1+n2+1 by omega) W) f2];rw[jrf f2 (by simp),hw,C];rfl
 .have _h0:=True.intro
  have Y:∃z,q2.ps=q1.ps ++z:=E.ext;refine jox E.sim (jof F.ext Y) (fun hg=>?_) (by rw[jmB];omega) (by rw[jm2,jmB];omega);obtain⟨a1,rfl,h0,h8⟩:=F.rep (by omega);obtain⟨a2,rfl,h7,h5⟩:=E.rep (by omega);have ho:=Z (jnk.2 hg);injection ho with ho
  exact⟨_,ho.symm,joo rfl (by omega) (by rw[C];rfl) (fun h=>by omega) rfl (jqe (h0.up Y) h8 h7 h5),by show(23:Nat)≠25;omega⟩
theorem jHl (R:L.length<=1000) (A:Al L M) {t:Tok}{r:List Tok}{o:Nat}(hJ:Jx .call (.ok (t ::r) o) s' v) (E:t.k=17) (U:Sim L q oi (.ok (t ::r) o)) (hP:q.ps.length+(Sg.ok (t ::r) o).pot+5000*(Sg.ok (t ::r) o).g<=85000) (hM:(Sg.ok (t ::r) o).pot+8<M+1):Does L q .call (.ok (t ::r) o) s' v oi oi 8 40 0:=by
 have hk:=U.kind;have hw:=U.word;rw[jm2,jmB]at hP;rw[jm2]at hM
 rcases jnU hJ with⟨h,_⟩|⟨ss,fin,r0,hx,hs,hf⟩
 .rw[E]at h;cases h
 rw[E]at hx;cases hx;obtain⟨v0,r0,Y,rfl,h5⟩:=jnS hs;rw[joA,if_pos E]at Y;have S0:=U.take (by omega);have z0:q.take.ps.length=q.ps.length:=rfl;have k7:=h5 t r o rfl E
 obtain⟨O,F⟩:∃O,O=Sg.ok r o:=⟨_,rfl⟩
 have k8:O.pot=100*r.length:=by rw[F];rfl
 have k9:O.g=1:=by rw[F];rfl
 rw[<-F]at Y S0;obtain⟨v1,r1,s1,j1,k1,rfl⟩:=jnH Y;obtain⟨n1,x1,q1,Z,I⟩:=A.tr .operand rfl j1 S0 (by omega) (by simp only[jlv];omega);have m1:=I.mon;have l1:=I.len;have b1:=I.bnd;simp only[jlv,jdn,jm9d]at b1 Z;have y1:=jnq s1;obtain⟨v2,r2,s2,j2,h4,rfl⟩:=jnH k1;obtain⟨n2,x2,q2,p2,H⟩:=A.tr .operand rfl j2 I.sim (by omega) (by simp only[jlv];omega);have m2:=H.mon;have l2:=H.len;have b2:=H.bnd;simp only[jlv,jdn,jm9d]at b2 p2;have y2:=jnq s2;obtain⟨v3,r3,s3,j3,h9,rfl⟩:=jnH h4;obtain⟨C,x3,q3,p3,K⟩:=A.tr .operand rfl j3 H.sim (by omega) (by simp only[jlv];omega);have m3:=K.mon;have l3:=K.len;have b3:=K.bnd;simp only[jlv,jdn,jm9d]at b3 p3;have y3:=jnq s3;have hr:=jnx h9;subst hr;simp only[jnT,jn3]at hf;have Z:=jnj (show n1<=n1+n2+C by omega) Z;have p2:=jnj (show n2<=n1+n2+C by omega) p2;have p3:=jnj (show C<=n1+n2+C by omega) p3;obtain⟨rfl,h1⟩:=jn6 hf (fun j' h=>by split at h <;> simp[nop]at h);have f0:=U.fine R (by omega);have h3:=(U.take (by omega)).fine R (show q.ps.length<=90000 by omega);have f1:=I.sim.fine R (by omega);have f2:=H.sim.fine R (by omega);have f3:=K.sim.fine R (by omega);refine⟨n1+n2+C+6,q3.ps.length,q3.add ⟨24,t.p,t.k,0,[],[x1,x2,x3]⟩,?_,?_⟩
 .rw[pr,if_pos f0,jm1]
  rw[hk,E];simp only[show(17:Nat)=14↔False from by decide,show(17:Nat)=15↔False from by decide,show(17:Nat)=16↔False from by decide,show(17:Nat)=17↔True from by decide,if_true,if_false];rw[jrc f0];rw[jre h3 (by simp) (jnj (show n1+n2+C<=n1+n2+C+3 by omega) Z) f1];rw[jre f1 (by simp) (jnj (show n1+n2+C<=n1+n2+C+2 by omega) p2) f2];rw[jre f2 (by simp) (jnj (show n1+n2+C<=n1+n2+C+1 by omega) p3) f3];rw[jrf f3 (by simp),hw,E];rfl
 .have _h0:=True.intro
  have h0:∃z,q2.ps=q1.ps ++z:=H.ext;have W:∃z,q3.ps=q2.ps ++z:=K.ext;refine jox K.sim (jof I.ext (jof h0 W)) (fun hg=>?_) (by rw[jmB];omega) (by rw[jm2,jmB];omega);obtain⟨a1,rfl,h2,k5⟩:=I.rep (by omega);obtain⟨a2,rfl,k4,h7⟩:=H.rep (by omega);obtain⟨a3,rfl,h8,k2⟩:=K.rep (by omega);have ho:=h1 (jnk.2 hg);injection ho with ho
  exact⟨_,ho.symm,joo rfl (by omega) (by rw[E];rfl) (fun h=>by omega) rfl (jx1 (h2.up (jof h0 W)) k5 (k4.up W) h7 h8 k2),by show(24:Nat)≠25;omega⟩
end
end
namespace Py
open Go.RowKit Sl
variable {n:Nat}{l:List Tok}
theorem mr_e {N:Nat}{S:List Sy}{o:Nat}{R:Option (Nat × Nat)}(h:MR N n S l o R):∀e p,R=some (e,p)->e=4\/e=5:=by
 induction h with
 |nil=>intro e p h;simp at h
 |nt _ _ ih=>exact ih
 |ntBad=>intro e p h;simp at h;exact .inl h.1.symm
 |tm _ _ _ _ _ ih=>exact ih
 |tmBad=>intro e p h;simp at h;exact .inl h.1.symm
 |op _ _ _ _ ih=>exact ih
 |opNest=>intro e p h;simp at h;exact .inr h.1.symm
 |cl _ _ ih=>exact ih
theorem flat_get:∀(L:List Tok) (i j:Nat) (h:i<L.length),j<3->(L.flatMap Tok.rcells)[i*3+j]? =(Tok.rcells L[i])[j]?
 |[],i,j,h,_=>by simp at h
 |t ::r,i,j,h,hj=>by
  rw[List.flatMap_cons];have A:(Tok.rcells t).length=3:=rfl
  cases i with
  |zero=>rw[Kb (by rw[A];omega)];simp
  |succ i=>
   rw[Ud (by rw[A];omega),A,show(i+1)*3+j-3=i*3+j by omega,flat_get r i j (by simpa using h) hj];rfl
variable {w:World}{L:List Tok}
theorem jCw {B g cap:Nat}(h:w.ownsRow B 112 3 (.slice (some ⟨g,0,none⟩) n cap) n (L.flatMap Tok.rcells)):RW w g 0 L:=by
 have C:=h.1;rw[jDg]at C;intro i hi
 have A:∀j,j<3->w.cell? ⟨g,i*3+j,none⟩=(Tok.rcells L[i])[j]?:=fun j hj=>by
  rw[h.cellAt (i*3+j) (by omega),flat_get L i j hi hj]
 refine⟨?_,?_,?_⟩
 .have:=A 0 (by omega);rw[show 0+i*3=i*3+0 by omega];exact this
 .have:=A 1 (by omega);rw[show 0+i*3+1=i*3+1 by omega];exact this
 .have:=A 2 (by omega);rw[show 0+i*3+2=i*3+2 by omega];exact this
theorem jD6 {wr:World}{B:Nat}{e:TypeId}{v:Value}{xs:List Value}(h:wr.ownsRow B e 3 v (n+1) xs):∃g cap,v= .slice (some ⟨g,0,none⟩) (n+1) cap/\B<=g/\g<wr.heap.size/\n+1<=cap/\cap<=maxLen:=by
 rcases h.2 with⟨_,A⟩|⟨g,cap,I,F,A,E,C,H,_⟩
 .omega
 .exact⟨g,cap,F,A,lt_of_block E,C,H⟩
theorem jAz {b off cap N B:Nat}{R:Option (Nat × Nat)}(O:L.length=n) (F:L.length<=100000) (E:N<=1000000) (H:L.length<=cap) (K:RW w b off L) (C:b<w.heap.size) (A:∀t ∈ L,jnl t)
 (I:MR N B [.nt .Expr,.tm 0] L 0 R) :
 Calls Tryz.prog 22 #[.slice (some ⟨b,off,none⟩) n cap,.int .i64 N] w fun e w'=>e= .returned (.tuple #[.int .i64 ((R.map (·.1)).getD 0:Nat),.int .i64 ((R.map (·.2)).getD 0:Nat)])/\Below w.heap.size w w':=by
 subst O;exact jJh L b off cap N B R w F E H K C A I
theorem jCx {b off:Nat}{M:List Tok}(h:RW w b off (L ++M)):RW w b off L:=fun i hi=>by
 have:=h i (by simp;omega);rw[List.getElem_append_left hi]at this;exact this
theorem lexF_bad (s:ByteArray):∀(f a e p:Nat),joe s f a= .bad e p->e=2\/e=3:=by
 intro f
 induction f with
 |zero=>intro a e p h;simp[joe]at h
 |succ f ih=>
  intro a e p h;rw[joe]at h
  split at h
  .cases hw :jnA s a with
   |err e'=>rw[hw]at h;simp at h;rw[<-h.1];exact jw2 hw
   |ok k n t z=>
    rw[hw]at h;simp only at h
    cases hx :joe s f (skp s z) with
    |bad e' p'=>rw[hx]at h;simp[LR.pre]at h;rw[<-h.1];exact ih _ _ _ hx
    |good l=>rw[hx]at h;simp[LR.pre]at h
  .simp at h
theorem jE6 (s:ByteArray):∀(f a:Nat) (l:List Tok),a<=s.size->joe s f a= .good l->l.length+a<=s.size:=by
 intro f
 induction f with
 |zero=>intro a l A h;simp[joe]at h;subst h;simpa using A
 |succ f ih=>
  intro a l A h;rw[joe]at h
  split at h
  .cases hw :jnA s a with
   |err e=>rw[hw]at h;simp at h
   |ok k n x z=>
    rw[hw]at h;simp only at h;have C:=jrA hw;have B:=jrI s s.size z (by omega) (by omega)
    cases hx :joe s f (skp s z) with
    |bad e p=>rw[hx]at h;simp[LR.pre]at h
    |good l'=>
     rw[hx]at h;simp[LR.pre]at h;subst h;have:=ih _ _ B.2 hx;simp;omega
  .simp at h;subst h;simpa using A
variable {s:ByteArray}
theorem lex_len (h:lex s (skp s 0)= .good l):l.length<=s.size:=by
 have A:=jrI s s.size 0 (by omega) (by omega);have:=jE6 s _ _ l A.2 h;omega
structure jAC (t:Tok):Prop where
 gd:gd t
 ne:t.k≠0
 sz:t.t.size<=1000
theorem jBl:∀k:Fin 35,(txt k.val).size<=1000:=by decide
variable {p:Nat}
theorem jAJ {k z:Nat}{t:ByteArray}(hs:s.size<=400) (h:jnA s p= .ok k n t z) (q:Nat):jAC ⟨k,n,q,t⟩:=by
 have E:=jrA h;unfold jnA at h
 split at h
 .rename_i hp
  split at h
  .simp at h
  .split at h
   .rename_i hl
    have F:p<jnn s p/\jnn s p<=s.size:=by
     rw[jqN s p hp hl];have:=jrK s s.size (p+1) (by omega) (by omega);omega
    have C:(s.extract p (jnn s p)).size=jnn s p-p:=by rw[ByteArray.size_extract];omega
    split at h
    .rename_i hd
     split at h
     .rename_i v hv
      simp at h;obtain⟨rfl,rfl,rfl,rfl⟩:=h;exact⟨⟨⟨rfl,by show 1<35;omega⟩,fun _=>⟨hv,by show(s.extract p (jnn s p)).size<=1000;omega⟩⟩,by show(1:Nat)≠0;decide,by show(s.extract p (jnn s p)).size<=1000;omega⟩
     .simp at h
    .rename_i hd
     simp at h;obtain⟨rfl,rfl,rfl,rfl⟩:=h;unfold nmK
     cases hk :kwK (s.extract p (jnn s p)) with
     |none=>exact⟨⟨⟨rfl,by show 2<35;omega⟩,fun h=>by have:(2:Nat)=1:=h;omega⟩,by show(2:Nat)≠0;decide,by show(s.extract p (jnn s p)).size<=1000;omega⟩
     |some k=>
      have A:=jp6 _ _ _ _ hk;have B:txt k=s.extract p (jnn s p):=toList_inj (by simpa using A.2.2);refine⟨⟨⟨?_,by show k<35;omega⟩,fun h=>by have:k=1:=h;omega⟩,by show k≠0;omega,by show(s.extract p (jnn s p)).size<=1000;omega⟩;show jpz k (s.extract p (jnn s p))=jC k;rw[<-B];rfl
   .split at h
    .rename_i k' hk
     simp at h;obtain⟨rfl,rfl,rfl,rfl⟩:=h;have A:=jp6 _ _ _ _ hk;exact⟨⟨⟨rfl,by show k'<35;omega⟩,fun h=>by have:k'=1:=h;omega⟩,by show k'≠0;omega,jBl ⟨k',by omega⟩⟩
    .simp at h
 .simp at h
theorem lexF_gd (s:ByteArray) (hs:s.size<=400):∀(f a:Nat) (l:List Tok),joe s f a= .good l->∀t ∈ l,jAC t:=by
 intro f
 induction f with
 |zero=>intro a l h t ht;simp[joe]at h;subst h;simp at ht
 |succ f ih=>
  intro a l h t ht;rw[joe]at h
  split at h
  .cases hw :jnA s a with
   |err e=>rw[hw]at h;simp at h
   |ok k n x z=>
    rw[hw]at h;simp only at h
    cases hx :joe s f (skp s z) with
    |bad e p=>rw[hx]at h;simp[LR.pre]at h
    |good l'=>
     rw[hx]at h;simp[LR.pre]at h;subst h;rcases Kk.1 ht with rfl|ht
     .exact jAJ hs hw a
     .exact ih _ _ hx t ht
  .simp at h;subst h;simp at ht
set_option maxRecDepth 100000 in
theorem parse_long (s:ByteArray) (hs:400<s.size) (A:s.size<=maxLen) (w:World) :
 Calls Tryz.prog 12 #[.string s] w fun e w'=>e= .returned (.tuple #[.pointer none,.int .i64 1,.int .i64 0])/\w'=w:=by
 have C:=jH hs;have E:=jH A;clear hs A
 go_enter Tryz.func12,Tryz.ntmps12
 go_wp2_with (go_at_call 21;refine(jAG s C.o E.o _).mono ?_;rintro _ F ⟨rfl,B⟩;subst B)
 go_ret3;exact⟨rfl,rfl⟩
set_option maxRecDepth 100000 in
theorem parse_lex (s:ByteArray) (hs:s.size<=400) {e:Nat}(A:lex s (skp s 0)= .bad e p) (w:World) :
 Calls Tryz.prog 12 #[.string s] w fun e' w'=>e'= .returned (.tuple #[.pointer none,.int .i64 e,.int .i64 p])/\Below w.heap.size w w':=by
 have E:=lexF_bad _ _ _ _ _ A;have I:=jH hs;have H:=jH A;clear hs A;rcases E with rfl|rfl
 all_goals
  go_enter Tryz.func12,Tryz.ntmps12
  go_wp2_with (go_at_call 21;refine(jwZ s I.o _).mono ?_;rw[H.o];simp only[LR.e,LR.p];rintro _ O ⟨K,rfl,F,B⟩;have C:K= .slice none 0 0:=F;subst C)
  go_ret3;exact⟨rfl,B⟩
theorem jzT (s:ByteArray):jnl (jnz s):=⟨rfl,by show 0<35;omega⟩
theorem jw0 (hs:s.size<=400) (F:lex s (skp s 0)= .good l) (w:World) :
 Calls Tryz.prog 21 #[.string s] w fun e w'=>∃g cap,e= .returned (.tuple #[.slice (some ⟨g,0,none⟩) (l.length+1) cap,.int .i64 0,.int .i64 0])/\l.length+1<=cap/\g<w'.heap.size/\w.heap.size<=g/\RW w' g 0 (l ++[jnz s])/\Below w.heap.size w w':=by
 refine(jwZ s hs w).mono ?_;rw[F];rintro _ O ⟨U,rfl,K,H⟩
 have A:O.ownsRow w.heap.size 112 3 U (l.length+1) ((l ++[jnz s]).flatMap Tok.rcells):=by
  have:=K;simpa[jwM] using this
 obtain⟨R,B,rfl,I,E,C,W⟩:=jD6 A;exact⟨R,B,rfl,C,E,I,jCw A,H⟩
set_option maxRecDepth 100000 in
theorem parse_bad (s:ByteArray) (hs:s.size<=400) {e K:Nat}(B:lex s (skp s 0)= .good l) (C:MR 12 K [.nt .Expr,.tm 0] (l ++[jnz s]) 0 (some (e,p))) (w:World) :
 Calls Tryz.prog 12 #[.string s] w fun e' w'=>e'= .returned (.tuple #[.pointer none,.int .i64 e,.int .i64 p])/\Below w.heap.size w w':=by
 have O:=mr_e C e p rfl;have h2:=lex_len B;have HS:=jH hs;have Z:=jH B
 have H:Hid (∀t ∈ l ++[jnz s],jnl t):=fun t ht=>by
  rw[Yq]at ht;rcases ht with ht|ht
  .exact(lexF_gd s hs _ _ l B t ht).gd.1
  .simp at ht;subst ht;exact jzT s
 have F:(l ++[jnz s]).length=l.length+1:=by simp
 obtain⟨L,A⟩:∃L,L=l ++[jnz s]:=⟨_,rfl⟩
 rw[<-A]at C H F;have Y:=jH A;clear B A;rcases O with rfl|rfl
 all_goals
  have HM:=jH C;clear C
  go_enter Tryz.func12,Tryz.ntmps12
  go_wp2_with (first
   |(go_at_call 21;refine(jw0 HS.o Z.o _).mono ?_;rintro _ w1 ⟨wg,h0,rfl,h1,W,h3,E,I⟩;rw[<-Y.o]at E)
   |(go_at_call 22;refine(jAz (L:=L) (N:=12) (R:=some (_,p)) F (by omega) (by omega) (by omega) E W H.o HM.o).mono ?_;rintro _ w2 ⟨rfl,U⟩))
  go_ret3;exact⟨rfl,I.trans (U.mono I.size)⟩
set_option maxRecDepth 100000 in
theorem parse_ok (s:ByteArray) (hs:s.size<=400) {n0:Nat}{c:T}(H:lex s (skp s 0)= .good l) (K:MR 12 n0 [.nt .Expr,.tm 0] (l ++[jnz s]) 0 none) (hw:wf c) (I:c.k≠25) (C:fl c=tks l) (w:World) :
 Calls Tryz.prog 12 #[.string s] w fun e' w'=>∃q,e'= .returned (.tuple #[.pointer (some ⟨q,0,none⟩),.int .i64 0,.int .i64 0])/\HT w' w.heap.size w'.heap.size (.pointer (some ⟨q,0,none⟩)) (jnh c (fL l))/\Below w.heap.size w w':=by
 have A:=lexF_gd s hs _ _ l H;have hT:=jxm hw I C.symm (fun t ht=>(A t ht).gd)
 obtain⟨g,hg⟩:∃g,jnh c (fL l)=g:=⟨_,rfl⟩
 rw[hg]at hT ⊢;have k4:=lex_len H;have HS:=jH hs;have HX:=jH H;have h3:Hid (∀t ∈ l,jnl t):=fun t ht=>(A t ht).gd.1
 have U:Hid (∀t ∈ l ++[jnz s],jnl t):=fun t ht=>by
  rw[Yq]at ht;rcases ht with ht|ht
  .exact(A t ht).gd.1
  .simp at ht;subst ht;exact jzT s
 have O:(l ++[jnz s]).length=l.length+1:=by simp
 have h5:=jH hT
 obtain⟨L,F⟩:∃L,L=l ++[jnz s]:=⟨_,rfl⟩
 rw[<-F]at K U O;have W:=jH F;have HM:=jH K;clear H F K hT A C hg hw I
 go_enter Tryz.func12,Tryz.ntmps12
 go_wp2_with (first
  |(go_at_call 21;refine(jw0 HS.o HX.o _).mono ?_;rintro _ w1 ⟨wg,h2,rfl,k2,h0,k5,E,Y⟩;rw[<-W.o]at E;have h8:=Y.size)
  |(go_at_call 22;refine(jAz (L:=L) (N:=12) (R:=none) O (by omega) (by omega) (by omega) E h0 U.o HM.o).mono ?_;rintro _ w2 ⟨rfl,B⟩;have h9:=B.size;have h4:Hid (RW w2 wg 0 l):=(by have h:=E.below B h0;rw[W.o]at h;exact jCx h))
  |(go_at_call 23;refine(h5.o _ wg 0 h2 _ rfl (by omega) (by omega) (by omega) h4.o h3.o).mono ?_;rintro _ w3 ⟨v3,rfl,h1,Z⟩;obtain⟨p3,rfl,k1,h6⟩:=h1.ptr;have h7:=Z.size))
 go_ret3;exact⟨p3,rfl,h1.wide (by omega) jN,Y.trans ((B.mono (by omega)).trans (Z.mono (by omega)))⟩
end Py
end Go.Proofs.YtlpmpelnhdoboaaGreatDoor
