import Derived.Test.YtlpmpelnhdoboaaGreatDoorS04
import Derived.Test.YtlpmpelnhdoboaaGreatDoorS07
set_option linter.unusedVariables false
set_option linter.unusedSimpArgs false
set_option maxHeartbeats 20000000
namespace Go.Proofs.YtlpmpelnhdoboaaGreatDoor
open Go.RowKit Sl
def sLen:Value->Nat
 | .string s=>s.size
 |_=>0
theorem jzX {c:UInt8}(h:jnw c=true):48<=c.toNat/\c.toNat<=57:=by simpa[jnw] using h
theorem jE2 (t:ByteArray) (k:Nat) (h:k<t.size):t.data.toList.take (k+1)=t.data.toList.take k ++[t[k]]:=by
 rw[Uc (by simpa using h)];rfl
theorem jrS (t:ByteArray):t.data.toList.length=t.size:=by simp
theorem jHJ (t:ByteArray) (h:19<t.size) (E:¬t[0].toNat=48):joB 0 t.data.toList=none:=by
 rw[jtW _ 0 (by omega),if_neg];rintro ⟨B,A⟩
 have e:t.data.toList=t[0] ::t.data.toList.drop 1:=by
  have:=jr2 t 0 (by omega);simpa using this
 rw[e]at B A;rw[jqJ,juy]at A;have C:(t.data.toList.drop 1).length=t.size-1:=by rw[Ys,jrS]
 rw[C]at A;simp only[List.all_cons,Yc]at B;have I:=jzX B.1;have H:10 ^ 19<=10 ^ (t.size-1):=Nat.pow_le_pow_right (by omega) (by omega);have:1*10 ^ (t.size-1)<=(0*10+(t[0].toNat-48))*10 ^ (t.size-1):=Nat.mul_le_mul_right _ (by omega);have F:10 ^ 19=10000000000000000000:=rfl;omega
theorem jHL (t:ByteArray) (k:Nat) (h:k<t.size) (hd:jnw t[k]=false):joB 0 t.data.toList=none:=by
 rw[jtW _ 0 (by omega),if_neg];rintro ⟨A,_⟩;rw[List.all_eq_true]at A;have:=A t[k] (by simp[ByteArray.getElem_eq_getElem_data]);rw[this]at hd;cases hd
theorem jHM (t:ByteArray) (A:t.data.toList.all jnw=true) (h:t.size<=19) :
 joB 0 t.data.toList=if(decide (t.size<19) || leB t.toList joH.toList)=true then some (jnW 0 t.data.toList) else none:=by
 rw[jtW _ 0 (by omega)];have E:=jsR _ A 0;rw[jrS,Kc,Nat.one_mul]at E
 by_cases C:t.size<19
 .rw[if_pos (show(decide (t.size<19) || leB t.toList joH.toList)=true by simp[C])]
  refine if_pos ⟨A,?_⟩;have H:10 ^ t.size<=10 ^ 18:=Nat.pow_le_pow_right (by omega) (by omega);have F:10 ^ 18=1000000000000000000:=rfl;omega
 .have h19:t.size=19:=by omega
  have B:=jFg t.data.toList joH.data.toList (by rw[jrS,h19];rfl) A jEM 0;rw[jEL]at B;rw[Ye,Ye,B];simp[C,A]
theorem jBe (t:ByteArray) (k:Nat) (h:t.size<=19) (hk:k<t.size) (B:(t.data.toList.take k).all jnw=true):jnW 0 (t.data.toList.take k)<1000000000000000000:=by
 have A:=jsR _ B 0;rw[List.length_take,jrS,Kc,Nat.one_mul]at A;have E:10 ^ (min k t.size)<=10 ^ 18:=Nat.pow_le_pow_right (by omega) (by omega);have C:10 ^ 18=1000000000000000000:=rfl;omega
theorem jFx (b:Bool) (v:Nat):(if b=true then some v else none).isSome=b:=by cases b <;> rfl
set_option maxRecDepth 100000 in
theorem jux (s:ByteArray) (hs:s.size<=1000) (w:World) :
 Calls Tryz.prog 43 #[.string s] w fun e w'=>∃x:Int,e= .returned (.tuple #[.int .i64 x,.bool (jod s).isSome])/\(∀v,jod s=some v->x=v)/\w'=w:=by
 go_enter Tryz.func43,Tryz.ntmps43
 go_wp2_with fail
 go_loop [0] (fun u=>∃t:ByteArray,t.size<=1000/\joB 0 t.data.toList=jod s/\u= .string t) (fun u=>sLen u)
 case atStart=>exact⟨s,hs,rfl,rfl⟩
 case round=>
  obtain⟨t,ht,hd,rfl⟩:=hrel;have H:=jH hd;clear hd
  by_cases R:∃h:1<t.size,t[0].toNat=48
  .obtain⟨W,I⟩:=R
   have C:Hid (joB 0 (t.extract 1 t.size).data.toList=jod s):=by
    show _=_;rw[<-H.o,Lib.extract_data,Yw (by simp)];have e:=jr2 t 0 (by omega);simp only[List.drop_zero]at e;have Z:jnw t[0]=true:=by simp[jnw,I]
    rw[e,jww Z,I];simp
   have k1:((t[0].toNat:Int) == 48)=true:=by simp[I]
   clear I
   go_wp2_with fail
   go_round
   case rel=>exact⟨t.extract 1 t.size,by simp;omega,C.o,rfl⟩
   case measure=>simp[sLen];omega
  .have hz':∀h:1<t.size,((t[0].toNat:Int) == 48)=false:=by
    intro h
    cases hh :((t[0].toNat:Int) == 48) with
    |false=>rfl
    |true=>exact absurd ⟨h,by have:=eq_of_beq hh;omega⟩ R
   clear R
   have HM:Hid (19<t.size->jod s=none):=by
    intro h;rw[<-H.o];exact jHJ t h (fun h'=>by have:=hz' (by omega);simp[h']at this)
   by_cases W:1<t.size
   all_goals
    first|have h0:=hz' W|skip
    clear hz'
    go_wp2_with fail
    go_loop [5,6] (fun u v=>∃(x:Int) (k:Nat),k<=t.size/\(t.size<=19\/k=0)/\(t.data.toList.take k).all jnw=true/\(jnW 0 (t.data.toList.take k)<=9223372036854775807->x=jnW 0 (t.data.toList.take k))/\u= .int .i64 x/\v= .int .i64 k) (fun _ v=>t.size-(intOf v).toNat)
    case atStart=>exact⟨0,0,by omega,.inr rfl,rfl,fun _=>rfl,rfl,rfl⟩
    case round=>
     obtain⟨x,k,hk,k2,F,hx,rfl,rfl⟩:=hrel;have U:=jH F;have HX:=jH hx;clear F hx
     by_cases E:k<t.size
     .by_cases hg:jnw t[k]=true
      .have hr:=jzX hg
       by_cases hL:19<t.size
       .have C:Hid (jod s=none):=HM.o hL
        go_wp2_with (go_at_call 72;refine(jqZ _ _).mono ?_;rintro e w' ⟨rfl,rfl⟩)
        all_goals go_ret2
        all_goals exact⟨0,by rw[C.o];rfl,(fun v A=>by rw[C.o]at A;cases A),rfl⟩
       .have A:=jBe t k (by omega) E U.o
        have O:=HX.o (by omega);have h8:0<=x/\x<1000000000000000000:=by omega
        have HE:=jH O;have HT:=jE2 t k E;have HS:Hid (jnW 0 (t.data.toList.take (k+1))=jnW 0 (t.data.toList.take k)*10+(t[k].toNat-48)):=by show _=_;rw[HT,jBd]
        have HL:Hid ((t.data.toList.take (k+1)).all jnw=true):=by show _=_;rw[HT,List.all_append,U.o];simp[hg]
        clear HT O A
        by_cases h7:x*10+(t[k].toNat-48)<=9223372036854775807
        .go_wp2_with (go_at_call 72;refine(jqZ _ _).mono ?_;rintro e w' ⟨rfl,rfl⟩)
         go_round
         case rel=>exact⟨x*10+(t[k].toNat-48),k+1,by omega,.inl (by omega),HL.o,(fun _=>by rw[HS.o];have:=HE.o;omega),by go_num,by go_num⟩
         case measure=>simp[intOf];omega
        .go_wp2_with (go_at_call 72;refine(jqZ _ _).mono ?_;rintro e w' ⟨rfl,rfl⟩)
         go_round
         case rel=>exact⟨_,k+1,by omega,.inl (by omega),HL.o,(fun h=>by rw[HS.o]at h;have:=HE.o;omega),rfl,by go_num⟩
         case measure=>simp[intOf];omega
      .have hg':jnw t[k]=false:=by simpa using hg
       clear hg;have C:Hid (jod s=none):=by show _=_;rw[<-H.o];exact jHL t k E hg'
       go_wp2_with (go_at_call 72;refine(jqZ _ _).mono ?_;rintro e w' ⟨rfl,rfl⟩)
       go_ret2
       exact⟨0,by rw[C.o];rfl,(fun v A=>by rw[C.o]at A;cases A),rfl⟩
     .have hsz:t.size<=19:=by omega
      have h3:k=t.size:=by omega
      have K:t.data.toList.take k=t.data.toList:=Yw (by rw[jrS];omega)
      have HF:Hid (jod s=if(decide (t.size<19) || leB t.toList joH.toList)=true then some (jnW 0 t.data.toList) else none):=by
       show _=_;have:=U.o;rw[K]at this;rw[<-H.o];exact jHM t this hsz
      have h4:Hid (jnW 0 t.data.toList<=9223372036854775807->x=jnW 0 t.data.toList):=by
       have:=HX.o;rw[K]at this;exact this
      have HV:Hid (∀v,jod s=some v->v=jnW 0 t.data.toList/\v<=4611686018427387903):=by
       intro v A;have B:=jtW t.data.toList 0 (by omega);rw[H.o,A]at B
       split at B
       .rename_i hh;simp at B;exact⟨B,by rw[B];exact hh.2⟩
       .cases B
      clear K h3
      by_cases Y:t.size<19
      all_goals
       go_wp2_with fail
       all_goals go_ret2
       all_goals refine⟨x,?_,(fun v A=>by have W:=HV.o v A;have I:=h4.o (by omega);omega),rfl⟩
       all_goals refine congrArg (fun b=>Ending.returned (.tuple #[.int .i64 x,.bool b])) ?_
       all_goals rw[HF.o,jFx]
       all_goals first
        |(simp[Y];done)
        |(have e9:decide (t.size<19)=false:=by simpa using Y
          have h5:decide ((t.size:Int)<19)=false:=by simp;omega
          have h6:joH.toList=[52,54,49,49,54,56,54,48,49,56,52,50,55,51,56,55,57,48,51]:=by rw[Ye];rfl
          rw[e9,h5,leB,h6])
def Tok.rcells (x:Tok):List Value:=[.string (jpz x.k x.t),.string x.t,.int .i64 x.p]
theorem jDg (l:List Tok):(l.flatMap Tok.rcells).length=l.length*3:=by
 induction l with
 |nil=>rfl
 |cons x r ih=>simp only[List.flatMap_cons,Yg,ih,Yk,Tok.rcells,List.length_nil];omega
theorem Tryz.info112:(Tryz.prog.info? 112).map (fun i=>(i.zero,i.size,i.bytes))=some (some (.agg #[.string ⟨#[]⟩,.string ⟨#[]⟩,.int .i64 0]),3,40):=by kernel_rfl
theorem jtb (x:Tok):∀u ∈ Tok.rcells x,u.oneCell'=true:=by
 intro u A;simp only[Tok.rcells,Kk,List.not_mem_nil,or_false]at A;rcases A with rfl|rfl|rfl <;> rfl
def jwM (s:ByteArray) (B:Nat) (w:World) (v:Value):LR->Prop
 | .good l=>w.ownsRow B 112 3 v (l ++[jnz s]).length ((l ++[jnz s]).flatMap Tok.rcells)
 | .bad _ _=>v= .slice none 0 0
theorem jJy {c:UInt8}(h:joL c=true):(((c.toNat:Int) == 32) || ((c.toNat:Int) == 10) || ((c.toNat:Int) == 9) || ((c.toNat:Int) == 13))=true:=by
 simp only[joL,Yl,Yn]at h ⊢;omega
theorem jCr {s:ByteArray}{p k:Nat}(h:jpc s p=some k):sgT s p=txt k:=by unfold sgT;rw[h]
theorem jyw {t:ByteArray}(h:0<t.size):t.toList.isEmpty=false:=by
 rw[Ye]
 cases hh :t.data.toList with
 |nil=>have:=jrS t;rw[hh]at this;simp at this;omega
 |cons=>rfl
set_option maxRecDepth 100000 in
theorem jwZ (s:ByteArray) (hs:s.size<=400) (w:World) :
 Calls Tryz.prog 21 #[.string s] w fun e w'=>∃v,e= .returned (.tuple #[v,.int .i64 (LR.e (lex s (skp s 0))),.int .i64 (LR.p (lex s (skp s 0)))])/\jwM s w.heap.size w' v (lex s (skp s 0))/\Below w.heap.size w w':=by
 have hb:Below w.heap.size w w:=jB;have hm:s.size<=maxLen:=by unfold maxLen;omega
 obtain⟨i0,hi,h5,h7,h6⟩:=info_parts Tryz.info112
 obtain⟨R,hR⟩:∃R,R=lex s (skp s 0):=⟨_,rfl⟩
 rw[<-hR];have HR:=jH hR;clear hR
 go_enter Tryz.func21,Tryz.ntmps21
 go_wp2_with fail
 go_loopw [5,6] (fun v u wr=>∃(acc:List Tok) (k:Nat),acc.length<=k/\k<=s.size/\(lex s (skp s k)).pre acc=R/\u= .int .i64 k/\wr.ownsRow w.heap.size 112 3 v acc.length (acc.flatMap Tok.rcells)/\Below w.heap.size w wr) (fun _ u _=>s.size-(intOf u).toNat)
 case atStart=>exact⟨[],0,Yi _,Yi _,by rw[LR.pre_nil];exact HR.o.symm,rfl,Uk _ _ _ _,hb⟩
 case round=>
  obtain⟨acc,k,r7,hk,k4,rfl,E,O⟩:=hrel;have HX:=jH k4;clear k4;have U:=O.size
  by_cases B:k<s.size
  .by_cases ho:stB s k opn=true
   .have hs2:=jqd ho
    have e2:opn.size=2:=rfl;rw[e2]at hs2;clear e2
    cases hr :rem s (k+2) with
    |none=>
     have HE:Hid (R= .bad 2 k):=by
      show _=_;have h1:=jCg B ho hr;rw[<-HX.o,h1.1,jtu B h1.2];rfl
     go_wp2_with (first|(go_at_call 38;refine(jqb _ _ _ _ hm (by unfold maxLen;show k+2<=_;omega)).mono ?_;rintro e w' ⟨rfl,A⟩;subst A)|(go_at_call 39;refine(jx2 s (by omega) s.size (k+2) _ (by omega) (by omega)).mono ?_;rw[hr];rintro e w' ⟨rfl,A⟩;subst A;simp only[jqR]))
     go_ret3;exact⟨.slice none 0 0,by rw[HE.o];rfl,by rw[HE.o];rfl,O⟩
    |some j=>
     have hj:=jsi hr
     have HN:Hid ((lex s (skp s j)).pre acc=R):=by
      show _=_;rw[<-HX.o,jCf B ho hr]
     go_wp2_with (first|(go_at_call 38;refine(jqb _ _ _ _ hm (by unfold maxLen;show k+2<=_;omega)).mono ?_;rintro e w' ⟨rfl,A⟩;subst A)|(go_at_call 39;refine(jx2 s (by omega) s.size (k+2) _ (by omega) (by omega)).mono ?_;rw[hr];rintro e w' ⟨rfl,A⟩;subst A;simp only[jqR]))
     go_roundw
     case rel=>exact⟨acc,j,by omega,by omega,HN.o,rfl,E,O⟩
     case measure=>simp[intOf];omega
   .have ho':stB s k opn=false:=by simpa using ho
    clear ho
    by_cases h4:joL s[k]=true
    .have HN:Hid ((lex s (skp s (k+1))).pre acc=R):=by
      show _=_;rw[<-HX.o,ju1 s k B h4]
     have k2:s[k].toNat=32\/s[k].toNat=10\/s[k].toNat=9\/s[k].toNat=13:=by
      simp only[joL,Yl,Yn]at h4;omega
     clear h4;rcases k2 with hc|hc|hc|hc
     all_goals
      go_wp2_with (first|(go_at_call 38;refine(jqb _ _ _ _ hm (by unfold maxLen;show k+2<=_;omega)).mono ?_;rintro e w' ⟨rfl,A⟩;subst A))
      go_roundw
      case rel=>exact⟨acc,k+1,by omega,by omega,HN.o,by go_num,E,O⟩
      case measure=>simp[intOf];omega
    .have hbl':joL s[k]=false:=by simpa using h4
     clear h4;have k8:=jCe B ho' hbl';rw[k8]at HX
     have k2:((s[k].toNat:Int) == 32)=false/\((s[k].toNat:Int) == 10)=false/\((s[k].toNat:Int) == 9)=false/\((s[k].toNat:Int) == 13)=false:=by
      simp only[joL,Bool.or_eq_false_iff,Kl]at hbl' ⊢;omega
     obtain⟨r4,q9,r2,r5⟩:=k2;clear hbl' k8
     obtain⟨z,hz⟩:∃z,z=jnn s k:=⟨_,rfl⟩
     have k5:=jrK s s.size k (by omega) (by omega);rw[<-hz]at k5;have HZ:=jH hz;clear hz
     go_wp2_with (first|(go_at_call 38;refine(jqb _ _ _ _ hm (by unfold maxLen;show k+2<=_;omega)).mono ?_;rintro e w' ⟨rfl,A⟩;subst A))
     go_loop [10] (fun u=>∃j:Nat,k<=j/\j<=s.size/\jnn s j=z/\u= .int .i64 j) (fun u=>s.size-(intOf u).toNat)
     case atStart=>exact⟨k,jN,by omega,HZ.o.symm,rfl⟩
     case round=>
      obtain⟨j,r3,hj,hf,rfl⟩:=hrel;have HF:=jH hf;clear hf
      by_cases hg:∃h:j<s.size,jos s[j]=true
      .obtain⟨I,hlet⟩:=hg
       go_wp2_with (go_at_call 40;refine(jrz _ _).mono ?_;rintro e w' ⟨rfl,A⟩;subst A)
       go_round
       case rel=>exact⟨j+1,by omega,by omega,by rw[<-HF.o,jqN s j I hlet],by go_num⟩
       case measure=>simp[intOf];omega
      .have hjz:j=z:=by
        by_cases I:j<s.size
        .by_cases hlet:jos s[j]=true
         .exact absurd ⟨I,hlet⟩ hg
         .rw[<-HF.o,js9 s j I (by simpa using hlet)]
        .rw[<-HF.o,jta s j I]
       clear HF;subst hjz
       have Z:∀h:j<s.size,jos s[j]=false:=by
        intro h
        cases hh :jos s[j] with
        |false=>rfl
        |true=>exact absurd ⟨h,hh⟩ hg
       clear hg
       by_cases hl:jos s[k]=true
       .have htz:(s.extract k j).size=j-k:=by simp;omega
        have k9:k<j:=by
         rw[HZ.o,jqN s k B hl];have:=jrK s s.size (k+1) (by omega) (by omega);omega
        have K:0<(s.extract k j).size:=by omega
        have q6:=jyw K;have h0:=jzP s k j k9 k5.2 K
        by_cases hd:jnw s[k]=true
        .have HK:Hid (joS (s.extract k j)=⟨#[110,117,109]⟩):=by
          show _=_;unfold joS;rw[jy0 _ K (by rw[h0];exact hd),if_neg (by simp),dif_pos K,if_pos (by rw[h0];exact hd)];rfl
         clear h0
         cases hv :jod (s.extract k j) with
         |none=>
          have HV:=jH hv
          have HE:Hid (R= .bad 3 k):=by
           show _=_;have h1:jnA s k= .err 3:=by rw[jnA,dif_pos B,if_neg (by simp[ho']),if_pos hl,if_pos hd,<-HZ.o,hv]
           rw[<-HX.o,jtu B h1];rfl
          clear hv
          by_cases I:j<s.size
          all_goals
           first|have h8:=Z I|skip
           clear Z
           go_wp2_with (first|(go_at_call 40;refine(jrz _ _).mono ?_;rintro e w' ⟨rfl,A⟩;subst A)|(go_at_call 42;refine(jtw _ K (by omega) _).mono ?_;rw[HK.o];rintro e w1 ⟨rfl,C⟩;have h3:=C.size)|(go_at_call 43;refine(jux _ (by omega) _).mono ?_;rw[HV.o];rintro e w' ⟨x,rfl,_,A⟩;subst A))
           go_ret3;exact⟨.slice none 0 0,by rw[HE.o];rfl,by rw[HE.o];rfl,O.trans (C.mono U)⟩
         |some v=>
          have HV:=jH hv;have H:jnA s k= .ok 1 v (s.extract k j) j:=by rw[jnA,dif_pos B,if_neg (by simp[ho']),if_pos hl,if_pos hd,<-HZ.o,hv]
          have HN:Hid ((lex s (skp s j)).pre (acc ++[⟨1,v,k,s.extract k j⟩])=R):=by
           show _=_;rw[<-HX.o,jtt B H,LR.pre_pre]
          clear hv H
          by_cases I:j<s.size
          all_goals
           first|have h8:=Z I|skip
           clear Z
           go_wp2_with (first|(go_at_call 40;refine(jrz _ _).mono ?_;rintro e w' ⟨rfl,A⟩;subst A)|(go_at_call 42;refine(jtw _ K (by omega) _).mono ?_;rw[HK.o];rintro e w1 ⟨rfl,C⟩;have h3:=C.size)|(go_at_call 43;refine(jux _ (by omega) _).mono ?_;rw[HV.o];rintro e w' ⟨x,rfl,_,A⟩;subst A)|(at_builtin;refine wpList_append_own _ rfl (.tmp 90) (.tmp 95) 74 rfl w.heap.size 112 i0 _ 3 40 Tryz.underlying74 hi h5 h7 h6 rfl (by decide) _ _ _ rfl ((own_below E C).alloc _) _ 1 1 (Tok.rcells ⟨1,v,k,s.extract k j⟩) rfl rfl (Ja _ _ _ _ rfl) ?_ ?_ ?_ ?_ ?_;exact jtb _;(unfold maxLen;omega);omega;(simp;omega);intro v' w3 F h2 _;have W:=jmb (O.trans (C.mono U)) (Ym U h3) _ h2 (jh7 E)))
           go_roundw
           case rel=>exact⟨acc ++[⟨1,v,k,s.extract k j⟩],j,by simp;omega,by omega,HN.o,by go_num,by simpa using F,W⟩
           case measure=>simp[intOf];omega
        .have hd':jnw s[k]=false:=by simpa using hd
         clear hd;have H:=jAH B ho' hl hd';rw[<-HZ.o]at H;have Y:=jw1 H
         obtain⟨kk,k1⟩:∃kk,kk=nmK (s.extract k j):=⟨_,rfl⟩
         rw[<-k1]at H Y
         have q5:kk≠1:=by
          rw[k1];unfold nmK
          cases hq :kwK (s.extract k j) with
          |none=>simp
          |some q=>have:=jp6 _ _ _ _ hq;simp;omega
         have HK:Hid (joS (s.extract k j)=jpz kk (s.extract k j)):=Y.2.2.1
         have q4:((jpz kk (s.extract k j)).toList == [110,117,109])=false:=by
          rw[<-HK.o];have e:=Y.2.2.2.1;rw[show jqT.toList=[110,117,109] by rw[Ye];rfl]at e;rw[e];simpa using q5
         have HN:Hid ((lex s (skp s j)).pre (acc ++[⟨kk,0,k,s.extract k j⟩])=R):=by
          show _=_;rw[<-HX.o,jtt B H,LR.pre_pre]
         clear H Y k1 h0
         by_cases I:j<s.size
         all_goals
          first|have h8:=Z I|skip
          clear Z
          go_wp2_with (first|(go_at_call 40;refine(jrz _ _).mono ?_;rintro e w' ⟨rfl,A⟩;subst A)|(go_at_call 42;refine(jtw _ K (by omega) _).mono ?_;rw[HK.o];rintro e w1 ⟨rfl,C⟩;have h3:=C.size)|(at_builtin;refine wpList_append_own _ rfl (.tmp 90) (.tmp 95) 74 rfl w.heap.size 112 i0 _ 3 40 Tryz.underlying74 hi h5 h7 h6 rfl (by decide) _ _ _ rfl ((own_below E C).alloc _) _ 1 1 (Tok.rcells ⟨kk,0,k,s.extract k j⟩) rfl rfl (Ja _ _ _ _ rfl) ?_ ?_ ?_ ?_ ?_;exact jtb _;(unfold maxLen;omega);omega;(simp;omega);intro v' w3 F h2 _;have W:=jmb (O.trans (C.mono U)) (Ym U h3) _ h2 (jh7 E)))
          go_roundw
          case rel=>exact⟨acc ++[⟨kk,0,k,s.extract k j⟩],j,by simp;omega,by omega,HN.o,by go_num,by simpa using F,W⟩
          case measure=>simp[intOf];omega
       .have hl':jos s[k]=false:=by simpa using hl
        clear hl;have q7:j=k:=by rw[HZ.o,js9 s k B hl']
        subst q7;have q8:(s.extract j j).toList.isEmpty=true:=by rw[Ye];simp
        have h8:=Z B;clear Z
        cases hsg :jpc s j with
        |none=>
         have HS:Hid (sgT s j=⟨#[]⟩):=by show _=_;unfold sgT;rw[hsg]
         have HE:Hid (R= .bad 2 j):=by
          show _=_;have h1:jnA s j= .err 2:=by rw[jnA,dif_pos B,if_neg (by simp[ho']),if_neg (by simp[hl']),hsg]
          rw[<-HX.o,jtu B h1];rfl
         clear hsg
         go_wp2_with (first|(go_at_call 40;refine(jrz _ _).mono ?_;rintro e w' ⟨rfl,A⟩;subst A)|(go_at_call 41;refine(jxV s (by omega) _ (by omega) _).mono ?_;rw[HS.o];rintro e w1 ⟨rfl,C⟩))
         go_ret3;exact⟨.slice none 0 0,by rw[HE.o];rfl,by rw[HE.o];rfl,O.trans (C.mono U)⟩
        |some q=>
         have hq:=jp6 _ _ _ _ hsg;have r6:=jqd hq.2.2;have r1:=juC q;have HS:Hid (sgT s j=txt q):=jCr hsg;have H:jnA s j= .ok q 0 (txt q) (j+(txt q).size):=by rw[jnA,dif_pos B,if_neg (by simp[ho']),if_neg (by simp[hl']),hsg]
         have Y:=jw1 H;have K:=Y.1;have q6:=jyw K;have HK:Hid (joS (txt q)=jpz q (txt q)):=Y.2.2.1
         have q4:((jpz q (txt q)).toList == [110,117,109])=false:=by
          rw[<-HK.o];have e:=Y.2.2.2.1;rw[show jqT.toList=[110,117,109] by rw[Ye];rfl]at e;rw[e];simp;omega
         have HN:Hid ((lex s (skp s (j+(txt q).size))).pre (acc ++[⟨q,0,j,txt q⟩])=R):=by
          show _=_;rw[<-HX.o,jtt B H,LR.pre_pre]
         clear hsg hq H Y
         go_wp2_with (first|(go_at_call 40;refine(jrz _ _).mono ?_;rintro e w' ⟨rfl,A⟩;subst A)|(go_at_call 41;refine(jxV s (by omega) _ (by omega) _).mono ?_;rw[HS.o];rintro e w0 ⟨rfl,h9⟩;have k7:=h9.size)|(go_at_call 42;refine(jtw _ K (by omega) _).mono ?_;rw[HK.o];rintro e w1 ⟨rfl,C⟩;have h3:=C.size)|(at_builtin;refine wpList_append_own _ rfl (.tmp 90) (.tmp 95) 74 rfl w.heap.size 112 i0 _ 3 40 Tryz.underlying74 hi h5 h7 h6 rfl (by decide) _ _ _ rfl ((own_below (own_below E h9) C).alloc _) _ 1 1 (Tok.rcells ⟨q,0,j,txt q⟩) rfl rfl (Ja _ _ _ _ rfl) ?_ ?_ ?_ ?_ ?_;exact jtb _;(unfold maxLen;omega);omega;(simp;omega);intro v' w3 F h2 _;have W:=jmb ((O.trans (h9.mono U)).trans (C.mono (Ym U k7))) (Ym U (Ym k7 h3)) _ h2 (jh7 E)))
         go_roundw
         case rel=>exact⟨acc ++[⟨q,0,j,txt q⟩],j+(txt q).size,by simp;omega,by omega,HN.o,by go_num,by simpa using F,W⟩
         case measure=>simp[intOf];omega
  .have HE:Hid (R= .good acc):=by
    show _=_;rw[<-HX.o,js8 s k B,jyZ s k B];simp[LR.pre]
   go_wp2_with (at_builtin;refine wpList_append_own _ rfl (.tmp 101) (.tmp 105) 74 rfl w.heap.size 112 i0 _ 3 40 Tryz.underlying74 hi h5 h7 h6 rfl (by decide) _ _ _ rfl (E.alloc _) _ 1 1 (Tok.rcells (jnz s)) rfl rfl (Ja _ _ _ _ rfl) ?_ ?_ ?_ ?_ ?_;exact jtb _;(unfold maxLen;omega);omega;(simp;omega);intro v' w3 F h2 _;have W:=jmb O U _ h2 (jh7 E))
   go_ret3;refine⟨v',?_,?_,W⟩
   .rw[HE.o];rfl
   .rw[HE.o];simpa[jwM] using F
theorem jAG (s:ByteArray) (hs:400<s.size) (A:s.size<=maxLen) (w:World) :
 Calls Tryz.prog 21 #[.string s] w fun e w'=>e= .returned (.tuple #[.slice none 0 0,.int .i64 1,.int .i64 0])/\w'=w:=by
 unfold maxLen at A
 go_enter Tryz.func21,Tryz.ntmps21
 go_wp2_with fail
 go_ret3;exact⟨rfl,rfl⟩
def jpi (t:ByteArray):Bool:=t.toList == [61] || t.toList == [60,62] || t.toList == [60] || t.toList == [60,61] || t.toList == [62] || t.toList == [62,61]
def joZ (t:ByteArray):Bool:=t.toList == [110,117,109] || t.toList == [105,100] || t.toList == [116,114,117,101] || t.toList == [102,97,108,115,101] || t.toList == [114,101,97,100]
theorem jqE (t:ByteArray) (w:World) :
 Calls Tryz.prog 74 #[.string t] w fun e w'=>e= .returned (.bool (jpi t))/\w'=w:=by
 go_enter Tryz.func74,Tryz.ntmps74
 go_wp2
 all_goals
  go_ret;refine⟨jpE ?_,rfl⟩;unfold jpi
  simp_all
theorem jt9 (t:ByteArray) (w:World) :
 Calls Tryz.prog 75 #[.string t] w fun e w'=>e= .returned (.bool (joZ t))/\w'=w:=by
 go_enter Tryz.func75,Tryz.ntmps75
 go_wp2
 all_goals
  go_ret;refine⟨jpE ?_,rfl⟩;unfold joZ
  simp_all
theorem jD2 (x:ByteArray) (A:0<x.size) (w:World) :
 Calls Tryz.prog 44 #[.string x] w fun e w'=>e= .returned (.bool (decide (65<=x[0].toNat) && decide (x[0].toNat<=90)))/\w'=w:=by
 go_enter Tryz.func44,Tryz.ntmps44
 go_wp2
 all_goals
  go_ret;refine⟨jpE ?_,rfl⟩;rw[Bool.eq_iff_iff];simp;omega
def RO (w':World) (b:Nat) (v:Value) (r:List ByteArray):Prop:=w'.ownsRow b 9 1 v r.length (r.map Value.string)
def RP (ks x:ByteArray) (ok:Bool) (r:List ByteArray) (w:World):Prop:=
 Calls Tryz.prog 45 #[.string x,.string ks] w fun e w'=>∃v,e= .returned (.tuple #[v,.bool ok])/\RO w' w.heap.size v r/\Below w.heap.size w w'
variable {n:Nat}
theorem jvp {W:World}{e:TypeId}{b base:Nat}{A:Array Value}{xs:List ByteArray}(C:b=W.heap.size) (H:base<=W.heap.size) (B:xs.length<=1000) (E:A=(xs.map Value.string).toArray) (F:n=xs.length) :
 (W.alloc (.cells A e)).ownsRow base e 1 (.slice (some ⟨b,0,none⟩) n n) n (xs.map Value.string):=by
 subst E F;exact jmE W e b base xs C H B
inductive RA (ks:ByteArray):ByteArray->Nat->Nat->UInt8->List UInt8->Bool->List ByteArray->Prop
 |Expr_0 (_:(ks.toList == [108,101,116])=true):RA ks ⟨#[69,120,112,114]⟩ 3 114 113 [69,120,112,113] true [⟨#[108,101,116]⟩,⟨#[76,101,116]⟩]
 |Expr_1 (_:(ks.toList == [108,101,116])=false) (_:(ks.toList == [105,102])=true):RA ks ⟨#[69,120,112,114]⟩ 3 114 113 [69,120,112,113] true [⟨#[105,102]⟩,⟨#[69,120,112,114]⟩,⟨#[116,104,101,110]⟩,⟨#[69,120,112,114]⟩,⟨#[101,108,115,101]⟩,⟨#[69,120,112,114]⟩]
 |Expr_2 (_:(ks.toList == [108,101,116])=false) (_:(ks.toList == [105,102])=false) (_:(ks.toList == [102,117,110])=true):RA ks ⟨#[69,120,112,114]⟩ 3 114 113 [69,120,112,113] true [⟨#[102,117,110]⟩,⟨#[105,100]⟩,⟨#[80,97,114,97,109,51]⟩,⟨#[45,62]⟩,⟨#[69,120,112,114]⟩]
 |Expr_3 (_:(ks.toList == [108,101,116])=false) (_:(ks.toList == [105,102])=false) (_:(ks.toList == [102,117,110])=false):RA ks ⟨#[69,120,112,114]⟩ 3 114 113 [69,120,112,113] true [⟨#[67,111,109,112,97,114,105,115,111,110]⟩,⟨#[82,101,115,116]⟩]
 |Let_0 (_:(ks.toList == [114,101,99])=true):RA ks ⟨#[76,101,116]⟩ 2 116 115 [76,101,115] true [⟨#[114,101,99]⟩,⟨#[105,100]⟩,⟨#[105,100]⟩,⟨#[80,97,114,97,109,51]⟩,⟨#[61]⟩,⟨#[69,120,112,114]⟩,⟨#[105,110]⟩,⟨#[69,120,112,114]⟩]
 |Let_1 (_:(ks.toList == [114,101,99])=false) (_:(ks.toList == [40])=true):RA ks ⟨#[76,101,116]⟩ 2 116 115 [76,101,115] true [⟨#[40]⟩,⟨#[105,100]⟩,⟨#[44]⟩,⟨#[105,100]⟩,⟨#[78,97,109,101,52]⟩,⟨#[41]⟩,⟨#[61]⟩,⟨#[69,120,112,114]⟩,⟨#[105,110]⟩,⟨#[69,120,112,114]⟩]
 |Let_2 (_:(ks.toList == [114,101,99])=false) (_:(ks.toList == [40])=false):RA ks ⟨#[76,101,116]⟩ 2 116 115 [76,101,115] true [⟨#[105,100]⟩,⟨#[61]⟩,⟨#[69,120,112,114]⟩,⟨#[105,110]⟩,⟨#[69,120,112,114]⟩]
 |Rest_0 (_:(ks.toList == [59])=true):RA ks ⟨#[82,101,115,116]⟩ 3 116 115 [82,101,115,115] true [⟨#[59]⟩,⟨#[69,120,112,114]⟩]
 |Rest_1 (_:(ks.toList == [59])=false):RA ks ⟨#[82,101,115,116]⟩ 3 116 115 [82,101,115,115] true []
 |Comparison_0:RA ks ⟨#[67,111,109,112,97,114,105,115,111,110]⟩ 9 110 109 [67,111,109,112,97,114,105,115,111,109] true [⟨#[83,117,109]⟩,⟨#[67,111,109,112,97,114,101,100]⟩]
 |Compared_0 (_:jpi ks=true):RA ks ⟨#[67,111,109,112,97,114,101,100]⟩ 7 100 99 [67,111,109,112,97,114,101,99] true [ks,⟨#[83,117,109]⟩]
 |Compared_1 (_:jpi ks=false):RA ks ⟨#[67,111,109,112,97,114,101,100]⟩ 7 100 99 [67,111,109,112,97,114,101,99] true []
 |Sum_0:RA ks ⟨#[83,117,109]⟩ 2 109 108 [83,117,108] true [⟨#[80,114,111,100,117,99,116]⟩,⟨#[84,101,114,109,115]⟩]
 |Terms_0 (_:(ks.toList == [43])=true):RA ks ⟨#[84,101,114,109,115]⟩ 4 115 114 [84,101,114,109,114] true [ks,⟨#[80,114,111,100,117,99,116]⟩,⟨#[84,101,114,109,115]⟩]
 |Terms_1 (_:(ks.toList == [43])=false) (_:(ks.toList == [45])=true):RA ks ⟨#[84,101,114,109,115]⟩ 4 115 114 [84,101,114,109,114] true [ks,⟨#[80,114,111,100,117,99,116]⟩,⟨#[84,101,114,109,115]⟩]
 |Terms_2 (_:(ks.toList == [43])=false) (_:(ks.toList == [45])=false):RA ks ⟨#[84,101,114,109,115]⟩ 4 115 114 [84,101,114,109,114] true []
 |Product_0:RA ks ⟨#[80,114,111,100,117,99,116]⟩ 6 116 115 [80,114,111,100,117,99,115] true [⟨#[83,105,103,110]⟩,⟨#[70,97,99,116,111,114,115]⟩]
 |Factors_0 (_:(ks.toList == [42])=true):RA ks ⟨#[70,97,99,116,111,114,115]⟩ 6 115 114 [70,97,99,116,111,114,114] true [ks,⟨#[83,105,103,110]⟩,⟨#[70,97,99,116,111,114,115]⟩]
 |Factors_1 (_:(ks.toList == [42])=false) (_:(ks.toList == [47])=true):RA ks ⟨#[70,97,99,116,111,114,115]⟩ 6 115 114 [70,97,99,116,111,114,114] true [ks,⟨#[83,105,103,110]⟩,⟨#[70,97,99,116,111,114,115]⟩]
 |Factors_2 (_:(ks.toList == [42])=false) (_:(ks.toList == [47])=false) (_:(ks.toList == [37])=true):RA ks ⟨#[70,97,99,116,111,114,115]⟩ 6 115 114 [70,97,99,116,111,114,114] true [ks,⟨#[83,105,103,110]⟩,⟨#[70,97,99,116,111,114,115]⟩]
 |Factors_3 (_:(ks.toList == [42])=false) (_:(ks.toList == [47])=false) (_:(ks.toList == [37])=false):RA ks ⟨#[70,97,99,116,111,114,115]⟩ 6 115 114 [70,97,99,116,111,114,114] true []
 |Sign_0 (_:(ks.toList == [45])=true):RA ks ⟨#[83,105,103,110]⟩ 3 110 109 [83,105,103,109] true [ks,⟨#[83,105,103,110]⟩]
 |Sign_1 (_:(ks.toList == [45])=false) (_:(ks.toList == [110,111,116])=true):RA ks ⟨#[83,105,103,110]⟩ 3 110 109 [83,105,103,109] true [ks,⟨#[83,105,103,110]⟩]
 |Sign_2 (_:(ks.toList == [45])=false) (_:(ks.toList == [110,111,116])=false):RA ks ⟨#[83,105,103,110]⟩ 3 110 109 [83,105,103,109] true [⟨#[67,97,108,108]⟩]
 |Call_0 (_:(ks.toList == [112,114,105,110,116])=true):RA ks ⟨#[67,97,108,108]⟩ 3 108 107 [67,97,108,107] true [ks,⟨#[79,112,101,114,97,110,100]⟩]
 |Call_1 (_:(ks.toList == [112,114,105,110,116])=false) (_:(ks.toList == [108,101,110])=true):RA ks ⟨#[67,97,108,108]⟩ 3 108 107 [67,97,108,107] true [ks,⟨#[79,112,101,114,97,110,100]⟩]
 |Call_2 (_:(ks.toList == [112,114,105,110,116])=false) (_:(ks.toList == [108,101,110])=false) (_:(ks.toList == [97,114,114,97,121])=true):RA ks ⟨#[67,97,108,108]⟩ 3 108 107 [67,97,108,107] true [ks,⟨#[79,112,101,114,97,110,100]⟩,⟨#[79,112,101,114,97,110,100]⟩]
 |Call_3 (_:(ks.toList == [112,114,105,110,116])=false) (_:(ks.toList == [108,101,110])=false) (_:(ks.toList == [97,114,114,97,121])=false) (_:(ks.toList == [112,117,116])=true):RA ks ⟨#[67,97,108,108]⟩ 3 108 107 [67,97,108,107] true [ks,⟨#[79,112,101,114,97,110,100]⟩,⟨#[79,112,101,114,97,110,100]⟩,⟨#[79,112,101,114,97,110,100]⟩]
 |Call_4 (_:(ks.toList == [112,114,105,110,116])=false) (_:(ks.toList == [108,101,110])=false) (_:(ks.toList == [97,114,114,97,121])=false) (_:(ks.toList == [112,117,116])=false):RA ks ⟨#[67,97,108,108]⟩ 3 108 107 [67,97,108,107] true [⟨#[79,112,101,114,97,110,100]⟩,⟨#[65,114,103,117,109,101,110,116,52]⟩]
 |Operand_0:RA ks ⟨#[79,112,101,114,97,110,100]⟩ 6 100 99 [79,112,101,114,97,110,99] true [⟨#[65,116,111,109]⟩,⟨#[73,110,100,101,120]⟩]
theorem jDF {ks x:ByteArray}{v:Nat}{u:UInt8}{l:List UInt8}{ok:Bool}{r:List ByteArray}(h:RA ks x n v u l ok r) :
 (∃hl:n<x.size,x[n].toNat=v)/\(x.extract 0 n).toList=l.dropLast/\x.size=n+1/\l=x.data.toList.take n ++[u]:=by
 cases h <;> exact⟨⟨by decide,rfl⟩,by rw[Ye];rfl,rfl,rfl⟩
set_option maxRecDepth 100000 in
theorem ra {ks x:ByteArray}{v:Nat}{u:UInt8}{l:List UInt8}{ok:Bool}{r:List ByteArray}(h:RA ks x n v u l ok r) (w:World):RP ks x ok r w:=by
 obtain⟨⟨R,hl⟩,F,H,B⟩:=jDF h;have K:=jH R;have Y:=jH H;have Z:=jH B;clear H B;have hb:Below w.heap.size w w:=jB;unfold RP;cases h
 all_goals dsimp only[List.dropLast]at F
 all_goals (
  go_enter Tryz.func45,Tryz.ntmps45
  go_wp2_with (first
   |(go_at_call 74;refine(jqE _ _).mono ?_;rintro e w' ⟨rfl,A⟩;subst A)
   |(go_at_call 75;refine(jt9 _ _).mono ?_;rintro e w' ⟨rfl,A⟩;subst A)
   |(refine jmu _ rfl (.tmp 24) 9 132 5 rfl _ rfl Tryz.underlying9 Tryz.underlying132 Tryz.underlying5 ?_;intro w1 cap C I O h0;have W:=C _ K.o;have U:=I _ K.o;have E:=jmy _ _ Y.o C Z.o;have E:Hid _:=E;clear C I)
   |(refine jmt _ rfl (.tmp 33) 132 9 5 rfl _ _ _ _ rfl ?_ Tryz.underlying132 Tryz.underlying5 Tryz.underlying9 E.o ?_;rfl;clear E W U))
  all_goals go_ret2
  all_goals
   refine⟨_,rfl,?_,?_⟩
   .unfold RO
    first
     |exact Uk _ _ _ _
     |exact jvp (by rw[World.size_setCell];omega) (by rw[World.size_setCell];omega) (by simp) rfl rfl
   .first
     |exact O.setCell jN _
     |exact(O.setCell jN _).alloc (by rw[World.size_setCell];omega) _)
end Go.Proofs.YtlpmpelnhdoboaaGreatDoor
