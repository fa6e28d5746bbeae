import Derived.Test.YtlpmpelnhdoboaaGreatDoorS01
import Derived.Test.YtlpmpelnhdoboaaGreatDoorProg
import Derived.WalkKit
import Derived.WalkSpells
import Derived.WalkLawsBesides
set_option linter.unusedVariables false
set_option linter.unusedSimpArgs false
set_option maxHeartbeats 20000000
namespace Go.Proofs.YtlpmpelnhdoboaaGreatDoor
open Go.RowKit Sl
theorem jpE {a b:Bool}(h:a=b):Ending.returned (.bool a)= .returned (.bool b):=by rw[h]
theorem joT {k:IntKind}{a b:Int}(h:a=b):Ending.returned (.int k a)= .returned (.int k b):=by rw[h]
theorem jrb {a b:ByteArray}(h:a=b):Ending.returned (.string a)= .returned (.string b):=by rw[h]
theorem jqW (c:UInt8) (w:World) :
 Calls Tryz.prog 58 #[.int .u8 c.toNat] w fun e w'=>e= .returned (.bool (jnw c))/\w'=w:=by
 go_enter Tryz.func58,Tryz.ntmps58
 go_wp2
 all_goals
  go_ret;refine⟨jpE ?_,rfl⟩;rw[Bool.eq_iff_iff];simp[jnw];omega
theorem jqZ (c:UInt8) (w:World) :
 Calls Tryz.prog 72 #[.int .u8 c.toNat] w fun e w'=>e= .returned (.bool (jnw c))/\w'=w:=by
 go_enter Tryz.func72,Tryz.ntmps72
 go_wp2
 all_goals
  go_ret;refine⟨jpE ?_,rfl⟩;rw[Bool.eq_iff_iff];simp[jnw];omega
theorem juZ (c:UInt8) (w:World) :
 Calls Tryz.prog 73 #[.int .u8 c.toNat] w fun e w'=>e= .returned (.bool (jqr c))/\w'=w:=by
 go_enter Tryz.func73,Tryz.ntmps73
 go_wp2
 all_goals
  go_ret;refine⟨jpE ?_,rfl⟩;rw[Bool.eq_iff_iff];simp[jqr];omega
theorem jvX (c:UInt8) (w:World) :
 Calls Tryz.prog 53 #[.int .u8 c.toNat] w fun e w'=>e= .returned (.bool (joL c))/\w'=w:=by
 go_enter Tryz.func53,Tryz.ntmps53
 go_wp2
 all_goals
  go_ret;refine⟨jpE ?_,rfl⟩;rw[Bool.eq_iff_iff];simp[joL];omega
theorem jrz (c:UInt8) (w:World) :
 Calls Tryz.prog 40 #[.int .u8 c.toNat] w fun e w'=>e= .returned (.bool (jos c))/\w'=w:=by
 go_enter Tryz.func40,Tryz.ntmps40
 go_wp2_with (first|(go_at_call 72;refine(jqZ _ _).mono ?_;rintro e w' ⟨rfl,rfl⟩)|(go_at_call 73;refine(juZ _ _).mono ?_;rintro e w' ⟨rfl,rfl⟩))
 all_goals
  go_ret;refine⟨jpE ?_,rfl⟩;simp[jos, *]
theorem jr0 (c:UInt8) (w:World) :
 Calls Tryz.prog 56 #[.int .u8 c.toNat] w fun e w'=>e= .returned (.bool (jos c))/\w'=w:=by
 go_enter Tryz.func56,Tryz.ntmps56
 go_wp2_with (first|(go_at_call 58;refine(jqW _ _).mono ?_;rintro e w' ⟨rfl,rfl⟩))
 all_goals
  go_ret;refine⟨jpE ?_,rfl⟩;rw[Bool.eq_iff_iff];simp only[jos,jqr,jnw]at *;simp at *;omega
theorem jqc (s t:ByteArray) (i:Nat) (w:World) (hs:s.size<=maxLen) (hi:i+t.size<=maxLen) :
 Calls Tryz.prog 55 #[.string s,.int .i64 i,.string t] w fun e w'=>e= .returned (.bool (stB s i t))/\w'=w:=by
 unfold maxLen at hs hi
 go_enter Tryz.func55,Tryz.ntmps55
 go_wp2
 all_goals
  go_ret;refine⟨jpE ?_,rfl⟩
 .have h:i+t.size<=s.size:=by omega
  simp[stB,h]
 .have h:¬i+t.size<=s.size:=by omega
  simp[stB,h]
theorem jqb (s t:ByteArray) (i:Nat) (w:World) (hs:s.size<=maxLen) (hi:i+t.size<=maxLen) :
 Calls Tryz.prog 38 #[.string s,.int .i64 i,.string t] w fun e w'=>e= .returned (.bool (stB s i t))/\w'=w:=by
 unfold maxLen at hs hi
 go_enter Tryz.func38,Tryz.ntmps38
 go_wp2
 all_goals
  go_ret;refine⟨jpE ?_,rfl⟩
 .have h:i+t.size<=s.size:=by omega
  simp[stB,h]
 .have h:¬i+t.size<=s.size:=by omega
  simp[stB,h]
theorem jx2 (s:ByteArray) (hs:s.size<=1000) (n:Nat):∀(i:Nat) (w:World),s.size<=n+i->i<=s.size->
 Calls Tryz.prog 39 #[.string s,.int .i64 i] w fun e w'=>e= .returned (.int .i64 (jqR (rem s i)))/\w'=w:=by
 have H:s.size<=maxLen:=by unfold maxLen;omega
 induction n with
 |zero=>
  intro i w O hi;have R:¬i<s.size:=by omega
  have K:rem s i=none:=by rw[jqP,if_neg (by omega)]
  rw[K];clear K
  go_enter Tryz.func39,Tryz.ntmps39
  go_wp2_with fail
  refine wp_loop_rounds 1 ?_;rw[rounds_succ]
  go_wp2_with fail
  go_ret;exact⟨rfl,rfl⟩
 |succ n ih=>
  intro i w O hi
  go_enter Tryz.func39,Tryz.ntmps39
  go_wp2_with fail
  go_loop [1] (fun t=>∃k:Nat,i<=k/\k<=s.size/\rem s k=rem s i/\t= .int .i64 k) (fun t=>s.size-(intOf t).toNat)
  case atStart=>exact⟨i,Yy _,hi,rfl,rfl⟩
  case round=>
   obtain⟨k,U,Y,I,rfl⟩:=hrel;have E:Hid (rem s k=rem s i):=I;clear I
   by_cases A:k<s.size
   .by_cases hc:stB s k cls=true
    .have hsz:=jqd hc
     have C:cls.size=2:=rfl;rw[C]at hsz;clear C
     go_wp2_with (go_at_call 38;refine(jqb _ _ _ _ H (by unfold maxLen;show k+2<=_;omega)).mono ?_;rintro e w' ⟨rfl,rfl⟩)
     go_ret;refine⟨joT ?_,rfl⟩;rw[<-E.out,jqP,if_pos A,if_pos hc];rfl
    .have hc':stB s k cls=false:=by simpa using hc
     clear hc
     by_cases F:stB s k opn=true
     .have hsz:=jqd F
      have C:opn.size=2:=rfl;rw[C]at hsz;clear C
      have B:Hid (rem s k=match rem s (k+2)with|some j=>rem s j|none=>none):=by
       show _=_;rw[jqP s k,if_pos A,if_neg (by simp[hc']),if_pos F] <;> rfl
      cases hj :rem s (k+2) with
      |none=>
       go_wp2_with (first|(go_at_call 38;refine(jqb _ _ _ _ H (by unfold maxLen;show k+2<=_;omega)).mono ?_;rintro e w' ⟨rfl,rfl⟩)|(go_at_call 39;refine(ih (k+2) _ (by omega) (by omega)).mono ?_;rw[hj];rintro e w' ⟨rfl,rfl⟩;simp only[jqR]))
       go_ret;refine⟨joT ?_,rfl⟩;rw[<-E.out,B.out,hj];rfl
      |some j=>
       have W:=jsi hj
       go_wp2_with (first|(go_at_call 38;refine(jqb _ _ _ _ H (by unfold maxLen;show k+2<=_;omega)).mono ?_;rintro e w' ⟨rfl,rfl⟩)|(go_at_call 39;refine(ih (k+2) _ (by omega) (by omega)).mono ?_;rw[hj];rintro e w' ⟨rfl,rfl⟩;simp only[jqR]))
       go_round
       case rel=>exact⟨j,by omega,by omega,by rw[<-E.out,B.out,hj],rfl⟩
       case measure=>simp[intOf];omega
     .have ho':stB s k opn=false:=by simpa using F
      clear F
      have B:Hid (rem s k=rem s (k+1)):=by
       show _=_;rw[jqP s k,if_pos A,if_neg (by simp[hc']),if_neg (by simp[ho'])]
      go_wp2_with (first|(go_at_call 38;refine(jqb _ _ _ _ H (by unfold maxLen;show k+2<=_;omega)).mono ?_;rintro e w' ⟨rfl,rfl⟩))
      go_round
      case rel=>exact⟨k+1,by omega,by omega,by rw[<-E.out,B.out],by go_num⟩
      case measure=>simp[intOf];omega
   .go_wp2_with fail
    go_ret;refine⟨joT ?_,rfl⟩;rw[<-E.out,jqP,if_neg A];rfl
theorem jx3 (s:ByteArray) (hs:s.size<=1000) (b:Nat) (R:b<=s.size) (w:World) :
 Calls Tryz.prog 54 #[.string s,.int .i64 b] w fun e w'=>e= .returned (.int .i64 (jog s b))/\w'=w:=by
 have H:s.size<=maxLen:=by unfold maxLen;omega
 by_cases B:stB s b opn=true
 .have hsz:=jqd B
  have A:opn.size=2:=rfl;rw[A]at hsz;clear A
  go_enter Tryz.func54,Tryz.ntmps54
  go_wp2_with (go_at_call 55;refine(jqc _ _ _ _ H (by unfold maxLen;show b+2<=_;omega)).mono ?_;rintro e w' ⟨rfl,rfl⟩)
  go_loop [5,6] (fun t u=>∃d k:Nat,b+2<=k/\k<=s.size/\d<=k/\cnt s d k=rem s (b+2)/\t= .int .i64 d/\u= .int .i64 k) (fun _ u=>s.size-(intOf u).toNat)
  case atStart=>exact⟨1,b+2,Yy _,hsz,by omega,jIh s _,rfl,by go_num⟩
  case round=>
   obtain⟨d,k,W,Y,U,O,rfl,rfl⟩:=hrel;have F:Hid (cnt s d k=rem s (b+2)):=O;clear O
   by_cases E:k<s.size
   .cases d with
    |zero=>
     have C:Hid (jog s b=k):=by
      show _=_;have h:=F.out;rw[jwx]at h;rw[jog,if_pos B,<-h]
     go_wp2_with fail
     go_ret;exact⟨joT (by rw[C.out]),rfl⟩
    |succ d=>
     by_cases I:stB s k opn=true
     .have hsz1:=jqd I
      have A:opn.size=2:=rfl;rw[A]at hsz1;clear A
      go_wp2_with (go_at_call 55;refine(jqc _ _ _ _ H (by unfold maxLen;show k+2<=_;omega)).mono ?_;rintro e w' ⟨rfl,rfl⟩)
      go_round
      case rel=>exact⟨d+2,k+2,by omega,by omega,by omega,by rw[<-F.out,jAa s d k E I],by go_num,by go_num⟩
      case measure=>simp[intOf];omega
     .have h1':stB s k opn=false:=by simpa using I
      clear I
      by_cases K:stB s k cls=true
      .have hsz1:=jqd K
       have A:cls.size=2:=rfl;rw[A]at hsz1;clear A
       go_wp2_with (go_at_call 55;refine(jqc _ _ _ _ H (by unfold maxLen;show k+2<=_;omega)).mono ?_;rintro e w' ⟨rfl,rfl⟩)
       go_round
       case rel=>exact⟨d,k+2,by omega,by omega,by omega,by rw[<-F.out,jAd s d k E h1' K],by go_num,by go_num⟩
       case measure=>simp[intOf];omega
      .have h2':stB s k cls=false:=by simpa using K
       clear K
       go_wp2_with (go_at_call 55;refine(jqc _ _ _ _ H (by unfold maxLen;show k+2<=_;omega)).mono ?_;rintro e w' ⟨rfl,rfl⟩)
       go_round
       case rel=>exact⟨d+1,k+1,by omega,by omega,by omega,by rw[<-F.out,jAb s d k E h1' h2'],by go_num,by go_num⟩
       case measure=>simp[intOf];omega
   .cases d with
    |zero=>
     have C:Hid (jog s b=k):=by
      show _=_;have h:=F.out;rw[jwx]at h;rw[jog,if_pos B,<-h]
     go_wp2_with fail
     go_ret;exact⟨joT (by rw[C.out]),rfl⟩
    |succ d=>
     have C:Hid (jog s b=b):=by
      show _=_;have h:=F.out;rw[jwy s d k E]at h;rw[jog,if_pos B,<-h]
     go_wp2_with fail
     go_ret;exact⟨joT (by rw[C.out]),rfl⟩
 .have ho':stB s b opn=false:=by simpa using B
  have C:Hid (jog s b=b):=by
   show _=_;rw[jog,if_neg B]
  clear B
  go_enter Tryz.func54,Tryz.ntmps54
  go_wp2_with (go_at_call 55;refine(jqc _ _ _ _ H (by unfold maxLen;show b+2<=_;omega)).mono ?_;rintro e w' ⟨rfl,rfl⟩)
  go_ret;exact⟨joT (by rw[C.out]),rfl⟩
theorem jxS (s:ByteArray) (hs:s.size<=1000) (b:Nat) (F:b<=s.size) (w:World) :
 Calls Tryz.prog 29 #[.string s,.int .i64 b] w fun e w'=>e= .returned (.int .i64 (skp s b))/\w'=w:=by
 go_enter Tryz.func29,Tryz.ntmps29
 go_wp2_with fail
 go_loop [1] (fun t=>∃k:Nat,b<=k/\k<=s.size/\skp s k=skp s b/\t= .int .i64 k) (fun t=>s.size-(intOf t).toNat)
 case atStart=>exact⟨b,Yy _,F,rfl,rfl⟩
 case round=>
  obtain⟨k,K,B,E,rfl⟩:=hrel;have C:Hid (skp s k=skp s b):=E;clear E
  by_cases A:k<s.size
  .by_cases hbl:joL s[k]=true
   .go_wp2_with (go_at_call 53;refine(jvX _ _).mono ?_;rintro e w' ⟨rfl,rfl⟩)
    go_round
    case rel=>exact⟨k+1,by omega,by omega,by rw[<-C.out,ju1 s k A hbl],by go_num⟩
    case measure=>simp[intOf];omega
   .have hbl':joL s[k]=false:=by simpa using hbl
    clear hbl;have I:=jx4 s k B
    by_cases H:k<jog s k
    .go_wp2_with (first|(go_at_call 53;refine(jvX _ _).mono ?_;rintro e w' ⟨rfl,rfl⟩)|(go_at_call 54;refine(jx3 s hs k B _).mono ?_;rintro e w' ⟨rfl,rfl⟩))
     go_round
     case rel=>exact⟨jog s k,by omega,by omega,by rw[<-C.out,ju0 s k A hbl' H],rfl⟩
     case measure=>simp[intOf];omega
    .go_wp2_with (first|(go_at_call 53;refine(jvX _ _).mono ?_;rintro e w' ⟨rfl,rfl⟩)|(go_at_call 54;refine(jx3 s hs k B _).mono ?_;rintro e w' ⟨rfl,rfl⟩))
     go_ret;exact⟨joT (by rw[<-C.out,js7 s k A hbl' H]),rfl⟩
  .go_wp2_with fail
   go_ret;exact⟨joT (by rw[<-C.out,js8 s k A]),rfl⟩
def TX (w:World):Prop:=∀k:Nat,k<35->w.cell? ⟨0,k,none⟩=some (.string (txt k))
theorem TX.below {B:Nat}{w w':World}(h:TX w) (A:Below B w w') (C:0<B):TX w':=
 fun k hk=>(A.cell (p:=⟨0,k,none⟩) C).trans (h k hk)
theorem js0 (k:Nat) (w:World) (A:TX w) (hk:k<=1000):
 Calls Tryz.prog 81 #[.int .i64 k] w fun e w'=>e= .returned (.string (txt k))/\w'=w:=by
 by_cases h:k<35
 .have hc:=A k h
  clear A
  go_enter Tryz.func81,Tryz.ntmps81
  go_wp2
  go_ret;exact⟨rfl,rfl⟩
 .have e:Hid (txt k=⟨#[]⟩):=juD k (by omega)
  clear A
  go_enter Tryz.func81,Tryz.ntmps81
  go_wp2
  go_ret;exact⟨jrb e.out.symm,rfl⟩
theorem jww {n:Nat}{c:UInt8}{r:List UInt8}(h:jnw c=true):joB n (c ::r)=if n*10+(c.toNat-48)<=4611686018427387903 then joB (n*10+(c.toNat-48)) r else none:=by
 rw[joB,if_pos h]
theorem jbD (s:ByteArray) (hs:s.size<=1000) (w:World) :
 Calls Tryz.prog 60 #[.string s] w fun e w'=>e= .returned (.int .i64 (jqR (jod s)))/\w'=w:=by
 go_enter Tryz.func60,Tryz.ntmps60
 go_wp2_with fail
 go_loop [3,4] (fun t u=>∃v k:Nat,v<=4611686018427387903/\k<=s.size/\joB v (s.data.toList.drop k)=jod s/\t= .int .i64 v/\u= .int .i64 k) (fun _ u=>s.size-(intOf u).toNat)
 case atStart=>exact⟨0,0,by omega,by omega,rfl,rfl,rfl⟩
 case round=>
  obtain⟨v,k,F,hk,hd,rfl,rfl⟩:=hrel;have E:Hid (joB v (s.data.toList.drop k)=jod s):=hd;clear hd
  by_cases B:k<s.size
  .by_cases hg:jnw s[k]=true
   .have hr:48<=s[k].toNat/\s[k].toNat<=57:=by simpa[jnw] using hg
    by_cases C:v*10+(s[k].toNat-48)<=4611686018427387903
    .have A:Hid (joB (v*10+(s[k].toNat-48)) (s.data.toList.drop (k+1))=jod s):=by
      show _=_;rw[<-E.out,jr2 s k B,jww hg,if_pos C]
     go_wp2_with (go_at_call 58;refine(jqW _ _).mono ?_;rintro e w' ⟨rfl,rfl⟩)
     go_round
     case rel=>exact⟨v*10+(s[k].toNat-48),k+1,C,by omega,A.out,by go_num,by go_num⟩
     case measure=>simp[intOf];omega
    .have A:Hid (none=jod s):=by
      show _=_;rw[<-E.out,jr2 s k B,jww hg,if_neg C]
     go_wp2_with (go_at_call 58;refine(jqW _ _).mono ?_;rintro e w' ⟨rfl,rfl⟩)
     go_ret;exact⟨joT (by rw[<-A.out];rfl),rfl⟩
   .have hg':jnw s[k]=false:=by simpa using hg
    have A:Hid (none=jod s):=by
     show _=_;rw[<-E.out,jr2 s k B,joB,if_neg hg]
    clear hg
    go_wp2_with (go_at_call 58;refine(jqW _ _).mono ?_;rintro e w' ⟨rfl,rfl⟩)
    go_ret;exact⟨joT (by rw[<-A.out];rfl),rfl⟩
  .have A:Hid (some v=jod s):=by
    show _=_;rw[<-E.out,Ui (by simpa using B),joB]
   go_wp2_with fail
   go_ret;exact⟨joT (by rw[<-A.out];rfl),rfl⟩
abbrev wv (k p n:Nat) (t:ByteArray):Value:=.agg #[.int .i64 k,.int .i64 p,.int .i64 n,.string t]
def nmT (t:ByteArray):ByteArray:=if(kwK t).isSome then⟨#[]⟩ else t
theorem named_any (t:ByteArray) (p:Nat) (w:World) (C:TX w) (F:0<w.heap.size) :
 Calls Tryz.prog 59 #[.string t,.int .i64 p] w fun e w'=>e= .returned (wv (nmK t) p 0 (nmT t))/\Below w.heap.size w w':=by
 have B:Below w.heap.size w w:=Ko _ _
 go_enter Tryz.func59,Tryz.ntmps59
 go_wp2_with fail
 go_loop [5] (fun u=>∃k:Nat,3<=k/\k<=18/\jnY (fun k=>(txt k).toList == t.toList) k (18-k)=kwK t/\u= .int .i64 k) (fun u=>18-(intOf u).toNat)
 case atStart=>exact⟨3,Yy _,by omega,rfl,rfl⟩
 case round=>
  obtain⟨k,K,hk,H,rfl⟩:=hrel;have E:Hid (jnY (fun k=>(txt k).toList == t.toList) k (18-k)=kwK t):=H;clear H
  by_cases I:k<=17
  .by_cases he:((txt k).toList == t.toList)=true
   .go_wp2_with (go_at_call 81;refine(js0 _ _ ?_ (by omega)).mono ?_;exact C.below (B.alloc (Yy _) _) F;rintro e w' ⟨rfl,rfl⟩)
    have A:Hid (kwK t=some k):=by
     show _=_;rw[<-E.out,show 18-k=(17-k)+1 by omega,jnY,if_pos he]
    refine bodyPost_ret (v:=wv k p 0 ⟨#[]⟩) (by simp[results,Tryz.results59,go_sem]) rfl ⟨?_,B.alloc (Yy _) _⟩;simp[nmK,nmT,A.out]
   .have he':((txt k).toList == t.toList)=false:=by simpa using he
    have A:Hid (jnY (fun k=>(txt k).toList == t.toList) (k+1) (18-(k+1))=kwK t):=by
     show _=_;rw[<-E.out,show 18-k=(18-(k+1))+1 by omega,jnY,if_neg he]
    clear he
    go_wp2_with (go_at_call 81;refine(js0 _ _ ?_ (by omega)).mono ?_;exact C.below (B.alloc (Yy _) _) F;rintro e w' ⟨rfl,rfl⟩)
    go_round
    case rel=>exact⟨k+1,by omega,by omega,A.out,by go_num⟩
    case measure=>simp[intOf];omega
  .have A:Hid (kwK t=none):=by
    show _=_;rw[<-E.out,show 18-k=0 by omega,jnY]
   go_wp2_with fail
   refine bodyPost_ret (v:=wv 2 p 0 t) (by simp[results,Tryz.results59,go_sem]) rfl ⟨?_,B.alloc (Yy _) _⟩;simp[nmK,nmT,A.out]
def jqs (s:ByteArray) (p:Nat):Value:=match jpc s p with
 |some k=>.tuple #[wv k p 0 ⟨#[]⟩,.int .i64 0,.int .i64 ((p+(txt k).size:Nat):Int)]
 |none=>.tuple #[wv 0 0 0 ⟨#[]⟩,.int .i64 2,.int .i64 0]
theorem jCn (s:ByteArray) (hs:s.size<=1000) (p:Nat) (K:p<=s.size) (w:World) (E:TX w) (F:0<w.heap.size) :
 Calls Tryz.prog 57 #[.string s,.int .i64 p] w fun e w'=>e= .returned (jqs s p)/\Below w.heap.size w w':=by
 have B:Below w.heap.size w w:=Ko _ _;have I:s.size<=maxLen:=by unfold maxLen;omega
 go_enter Tryz.func57,Tryz.ntmps57
 go_wp2_with fail
 go_loop [7] (fun u=>∃k:Nat,18<=k/\k<=35/\jnY (fun k=>stB s p (txt k)) k (35-k)=jpc s p/\u= .int .i64 k) (fun u=>35-(intOf u).toNat)
 case atStart=>exact⟨18,Yy _,by omega,rfl,rfl⟩
 case round=>
  obtain⟨k,R,hk,H,rfl⟩:=hrel;have C:Hid (jnY (fun k=>stB s p (txt k)) k (35-k)=jpc s p):=H;clear H;have U:=juC k
  by_cases O:k<=34
  .by_cases he:stB s p (txt k)=true
   .have A:Hid (jpc s p=some k):=by
     show _=_;rw[<-C.out,show 35-k=(34-k)+1 by omega,jnY,if_pos he]
    go_wp2_with (first|(go_at_call 81;refine(js0 _ _ ?_ (by omega)).mono ?_;exact E.below (B.alloc (Yy _) _) F;rintro e w' ⟨rfl,rfl⟩)|(go_at_call 55;refine(jqc _ _ _ _ I (by unfold maxLen;omega)).mono ?_;rintro e w' ⟨rfl,rfl⟩))
    refine bodyPost_ret (v:=.tuple #[wv k p 0 ⟨#[]⟩,.int .i64 0,.int .i64 (((p+(txt k).size:Nat)):Int)]) (by simp[results,Tryz.results57,go_sem]) rfl ⟨by rw[jqs,A.out],B.alloc (Yy _) _⟩
   .have he':stB s p (txt k)=false:=by simpa using he
    have A:Hid (jnY (fun k=>stB s p (txt k)) (k+1) (35-(k+1))=jpc s p):=by
     show _=_;rw[<-C.out,show 35-k=(35-(k+1))+1 by omega,jnY,if_neg he]
    clear he
    go_wp2_with (first|(go_at_call 81;refine(js0 _ _ ?_ (by omega)).mono ?_;exact E.below (B.alloc (Yy _) _) F;rintro e w' ⟨rfl,rfl⟩)|(go_at_call 55;refine(jqc _ _ _ _ I (by unfold maxLen;omega)).mono ?_;rintro e w' ⟨rfl,rfl⟩))
    go_round
    case rel=>exact⟨k+1,by omega,by omega,A.out,by go_num⟩
    case measure=>simp[intOf];omega
  .have A:Hid (jpc s p=none):=by
    show _=_;rw[<-C.out,show 35-k=0 by omega,jnY]
   go_wp2_with fail
   exact bodyPost_ret (v:=.tuple #[wv 0 0 0 ⟨#[]⟩,.int .i64 2,.int .i64 0]) (by simp[results,Tryz.results57,go_sem]) rfl ⟨by rw[jqs,A.out],B.alloc (Yy _) _⟩
def jpH (k:Nat) (t:ByteArray):ByteArray:=if k=2 then t else⟨#[]⟩
def WR.val (p:Nat):WR->Value
 | .err e=>.tuple #[wv 0 0 0 ⟨#[]⟩,.int .i64 e,.int .i64 0]
 | .ok k n t z=>.tuple #[wv k p n (jpH k t),.int .i64 0,.int .i64 z]
theorem jEw (t:ByteArray):nmT t=jpH (nmK t) t:=by
 unfold nmT jpH nmK
 cases h :kwK t with
 |none=>simp
 |some k=>
  have:=jp6 _ _ _ _ h;simp;omega
theorem jCl (s:ByteArray) (p:Nat) (A:p<s.size) (C:stB s p opn=false) (B:jos s[p]=false):jqs s p=WR.val p (jnA s p):=by
 unfold jqs jnA;rw[dif_pos A,if_neg (by simp[C]),if_neg (by simp[B])]
 cases h :jpc s p with
 |none=>rfl
 |some k=>
  have:=jp6 _ _ _ _ h;simp only[WR.val,jpH];rw[if_neg (by omega)]
theorem jCm (s:ByteArray) (p:Nat):∃k' p' e' z':Nat,jqs s p= .tuple #[wv k' p' 0 ⟨#[]⟩,.int .i64 e',.int .i64 z']:=by
 unfold jqs
 split
 .exact⟨_,_,0,_,rfl⟩
 .exact⟨0,0,2,0,rfl⟩
theorem jt7 {W A:World}(B:Below W.heap.size W A):(∀b o,b<W.heap.size->A.cell? ⟨b,o,none⟩=W.cell? ⟨b,o,none⟩)/\(∀b o,b<W.heap.size->A.frozen? ⟨b,o,none⟩=W.frozen? ⟨b,o,none⟩):=
 ⟨fun b o h=>B.cell (p:=⟨b,o,none⟩) h,fun b o h=>B.frozen (p:=⟨b,o,none⟩) h⟩
theorem jw3 (s:ByteArray) (hs:s.size<=1000) (p:Nat) (H:p<s.size) (w:World) (hT:TX w) (h0:0<w.heap.size) :
 Calls Tryz.prog 30 #[.string s,.int .i64 p] w fun e w'=>e= .returned (WR.val p (jnA s p))/\Below w.heap.size w w':=by
 have F:Below w.heap.size w w:=Ko _ _;have hm:s.size<=maxLen:=by unfold maxLen;omega
 by_cases ho:stB s p opn=true
 .have E:Hid (jnA s p= .err 2):=by show _=_;rw[jnA,dif_pos H,if_pos ho]
  go_enter Tryz.func30,Tryz.ntmps30
  go_wp2_with (first|(go_at_call 55;refine(jqc _ _ _ _ hm (by unfold maxLen;show p+2<=_;omega)).mono ?_;rintro e w' ⟨rfl,rfl⟩))
  exact bodyPost_ret (v:=.tuple #[wv 0 0 0 ⟨#[]⟩,.int .i64 2,.int .i64 0]) (by simp[results,Tryz.results30,go_sem]) rfl ⟨by rw[E.out];rfl,F.alloc (Yy _) _⟩
 .have ho':stB s p opn=false:=by simpa using ho
  clear ho
  by_cases I:jos s[p]=true
  .have hr:p<jnn s p/\jnn s p<=s.size:=by
    rw[jqN s p H I];have:=jrK s s.size (p+1) (by omega) (by omega);omega
   obtain⟨z,Z⟩:∃z,z=jnn s p:=⟨_,rfl⟩
   rw[<-Z]at hr;have HZ:Hid (z=jnn s p):=Z;clear Z;have hx:(s.extract p z).size<=1000:=by simp;omega
   go_enter Tryz.func30,Tryz.ntmps30
   go_wp2_with (first|(go_at_call 55;refine(jqc _ _ _ _ hm (by unfold maxLen;show p+2<=_;omega)).mono ?_;rintro e w' ⟨rfl,rfl⟩)|(go_at_call 56;refine(jr0 _ _).mono ?_;rintro e w' ⟨rfl,rfl⟩))
   go_loop [7] (fun u=>∃j:Nat,p<=j/\j<=s.size/\jnn s j=z/\u= .int .i64 j) (fun u=>s.size-(intOf u).toNat)
   case atStart=>exact⟨p,Yy _,by omega,HZ.out.symm,rfl⟩
   case round=>
    obtain⟨j,h2,hj,hf,rfl⟩:=hrel;have W:Hid (jnn s j=z):=hf;clear hf
    by_cases U:∃h:j<s.size,jos s[j]=true
    .obtain⟨A,hlj⟩:=U
     go_wp2_with (go_at_call 56;refine(jr0 _ _).mono ?_;rintro e w' ⟨rfl,rfl⟩)
     go_round
     case rel=>exact⟨j+1,by omega,by omega,by rw[<-W.out,jqN s j A hlj],by go_num⟩
     case measure=>simp[intOf];omega
    .have hjz:j=z:=by
      by_cases A:j<s.size
      .by_cases hlj:jos s[j]=true
       .exact absurd ⟨A,hlj⟩ U
       .rw[<-W.out,js9 s j A (by simpa using hlj)]
      .rw[<-W.out,jta s j A]
     clear W;subst hjz
     have C:∀h:j<s.size,jos s[j]=false:=by
      intro h
      cases hh :jos s[j] with
      |false=>rfl
      |true=>exact absurd ⟨h,hh⟩ U
     clear U
     by_cases hd:jnw s[p]=true
     .cases hv :jod (s.extract p j) with
      |none=>
       have E:Hid (jnA s p= .err 3):=by show _=_;rw[jnA,dif_pos H,if_neg (by simp[ho']),if_pos I,if_pos hd,<-HZ.out,hv]
       by_cases A:j<s.size
       all_goals
        first|have Y:=C A|skip
        clear C
        go_wp2_with (first|(go_at_call 56;refine(jr0 _ _).mono ?_;rintro e w' ⟨rfl,rfl⟩)|(go_at_call 58;refine(jqW _ _).mono ?_;rintro e w' ⟨rfl,rfl⟩)|(go_at_call 60;refine(jbD _ hx _).mono ?_;rw[hv];rintro e w' ⟨rfl,rfl⟩;simp only[jqR]))
        exact bodyPost_ret (v:=.tuple #[wv 0 0 0 ⟨#[]⟩,.int .i64 3,.int .i64 0]) (by simp[results,Tryz.results30,go_sem]) rfl ⟨by rw[E.out];rfl,F.alloc (Yy _) _⟩
      |some v=>
       have E:Hid (jnA s p= .ok 1 v (s.extract p j) j):=by show _=_;rw[jnA,dif_pos H,if_neg (by simp[ho']),if_pos I,if_pos hd,<-HZ.out,hv]
       by_cases A:j<s.size
       all_goals
        first|have Y:=C A|skip
        clear C
        go_wp2_with (first|(go_at_call 56;refine(jr0 _ _).mono ?_;rintro e w' ⟨rfl,rfl⟩)|(go_at_call 58;refine(jqW _ _).mono ?_;rintro e w' ⟨rfl,rfl⟩)|(go_at_call 60;refine(jbD _ hx _).mono ?_;rw[hv];rintro e w' ⟨rfl,rfl⟩;simp only[jqR]))
        exact bodyPost_ret (v:=.tuple #[wv 1 p v ⟨#[]⟩,.int .i64 0,.int .i64 j]) (by simp[results,Tryz.results30,go_sem]) rfl ⟨by rw[E.out];rfl,F.alloc (Yy _) _⟩
     .have hd':jnw s[p]=false:=by simpa using hd
      have E:Hid (jnA s p= .ok (nmK (s.extract p j)) 0 (s.extract p j) j):=by show _=_;rw[jnA,dif_pos H,if_neg (by simp[ho']),if_pos I,if_neg hd,<-HZ.out]
      clear hd
      by_cases A:j<s.size
      all_goals
       first|have Y:=C A|skip
       clear C
       go_wp2_with (first|(go_at_call 56;refine(jr0 _ _).mono ?_;rintro e w' ⟨rfl,rfl⟩)|(go_at_call 58;refine(jqW _ _).mono ?_;rintro e w' ⟨rfl,rfl⟩)|(go_at_call 59;refine(named_any _ _ _ (hT.below (F.alloc (Yy _) _) h0) (by first|(simp;done)|(simp;omega))).mono ?_;rintro e w' ⟨rfl,B⟩;obtain⟨K,h1⟩:=jt7 B))
       have O:=B.size;simp at O;exact bodyPost_ret (v:=.tuple #[wv (nmK (s.extract p j)) p 0 (nmT (s.extract p j)),.int .i64 0,.int .i64 j]) (by simp[results,Tryz.results30,go_sem,K]) rfl ⟨by rw[E.out,jEw];rfl,(((((F.alloc (Yy _) _).trans (B.mono (by simp))).setCell (Yy _) _).setCell (Yy _) _).setCell (Yy _) _).setCell (Yy _) _⟩
  .have hl':jos s[p]=false:=by simpa using I
   have E:Hid (jqs s p=WR.val p (jnA s p)):=jCl s p H ho' hl';clear I;obtain⟨k',p',e',z',R⟩:=jCm s p;have R:Hid (jqs s p= .tuple #[wv k' p' 0 ⟨#[]⟩,.int .i64 e',.int .i64 z']):=R
   go_enter Tryz.func30,Tryz.ntmps30
   go_wp2_with (first|(go_at_call 56;refine(jr0 _ _).mono ?_;rintro e w' ⟨rfl,rfl⟩)|(go_at_call 58;refine(jqW _ _).mono ?_;rintro e w' ⟨rfl,rfl⟩)|(go_at_call 55;refine(jqc _ _ _ _ hm (by unfold maxLen;show p+2<=_;omega)).mono ?_;rintro e w' ⟨rfl,rfl⟩)|(go_at_call 57;refine(jCn s hs p (by omega) _ (hT.below (F.alloc (Yy _) _) h0) (by first|(simp;done)|(simp;omega))).mono ?_;rw[R.out];rintro e w' ⟨rfl,B⟩;obtain⟨K,h1⟩:=jt7 B))
   have O:=B.size;simp at O;exact bodyPost_ret (v:=.tuple #[wv k' p' 0 ⟨#[]⟩,.int .i64 e',.int .i64 z']) (by simp[results,Tryz.results30,go_sem,K]) rfl ⟨by rw[<-E.out,R.out],(((((F.alloc (Yy _) _).trans (B.mono (by simp))).setCell (Yy _) _).setCell (Yy _) _).setCell (Yy _) _).setCell (Yy _) _⟩
end Go.Proofs.YtlpmpelnhdoboaaGreatDoor
