import Derived.Test.YtlpmpelnhdoboaaGreatDoorS02
import Derived.Test.YtlpmpelnhdoboaaGreatDoorS03
set_option linter.unusedVariables false
set_option linter.unusedSimpArgs false
set_option maxHeartbeats 20000000
namespace Go.Proofs.YtlpmpelnhdoboaaGreatDoor
open Go.RowKit Sl
theorem jCj:∀k:Nat,k<17->(#[.string ⟨#[46,40]⟩,.string ⟨#[60,62]⟩,.string ⟨#[60,61]⟩,.string ⟨#[62,61]⟩,.string ⟨#[45,62]⟩,.string ⟨#[40]⟩,.string ⟨#[41]⟩,.string ⟨#[44]⟩,.string ⟨#[59]⟩,.string ⟨#[61]⟩,.string ⟨#[60]⟩,.string ⟨#[62]⟩,.string ⟨#[43]⟩,.string ⟨#[45]⟩,.string ⟨#[42]⟩,.string ⟨#[47]⟩,.string ⟨#[37]⟩]:Array Value)[k]? =some (.string (txt (18+k)))
 |0,_=>rfl|1,_=>rfl|2,_=>rfl|3,_=>rfl|4,_=>rfl|5,_=>rfl|6,_=>rfl|7,_=>rfl|8,_=>rfl|9,_=>rfl|10,_=>rfl|11,_=>rfl|12,_=>rfl|13,_=>rfl|14,_=>rfl|15,_=>rfl|16,_=>rfl|k+17,h=>absurd h (by omega)
theorem jFm:∀k:Nat,k<15->(#[.string ⟨#[108,101,116]⟩,.string ⟨#[114,101,99]⟩,.string ⟨#[105,110]⟩,.string ⟨#[105,102]⟩,.string ⟨#[116,104,101,110]⟩,.string ⟨#[101,108,115,101]⟩,.string ⟨#[102,117,110]⟩,.string ⟨#[110,111,116]⟩,.string ⟨#[116,114,117,101]⟩,.string ⟨#[102,97,108,115,101]⟩,.string ⟨#[114,101,97,100]⟩,.string ⟨#[112,114,105,110,116]⟩,.string ⟨#[108,101,110]⟩,.string ⟨#[97,114,114,97,121]⟩,.string ⟨#[112,117,116]⟩]:Array Value)[k]? =some (.string (txt (3+k)))
 |0,_=>rfl|1,_=>rfl|2,_=>rfl|3,_=>rfl|4,_=>rfl|5,_=>rfl|6,_=>rfl|7,_=>rfl|8,_=>rfl|9,_=>rfl|10,_=>rfl|11,_=>rfl|12,_=>rfl|13,_=>rfl|14,_=>rfl|k+15,h=>absurd h (by omega)
def sgT (s:ByteArray) (i:Nat):ByteArray:=match jpc s i with
 |some k=>txt k
 |none=>⟨#[]⟩
set_option maxRecDepth 100000 in
theorem jxV (s:ByteArray) (hs:s.size<=1000) (p:Nat) (K:p<=s.size) (w:World) :
 Calls Tryz.prog 41 #[.string s,.int .i64 p] w fun e w'=>e= .returned (.string (sgT s p))/\Below w.heap.size w w':=by
 have I:s.size<=maxLen:=by unfold maxLen;omega
 go_enter Tryz.func41,Tryz.ntmps41
 go_wp2_with fail
 go_loopw [6] (fun u wr=>∃k:Nat,k<=17/\jnY (fun k=>stB s p (txt k)) (18+k) (17-k)=jpc s p/\u= .int .i64 k/\Below w.heap.size w wr/\(∀k:Nat,k<17->wr.cell? ⟨w.heap.size,k,none⟩=some (.string (txt (18+k))))) (fun u _=>17-(intOf u).toNat)
 case atStart=>exact⟨0,by omega,rfl,rfl,jB.alloc jN _,fun k hk=>(World.cell?_alloc_new (w:=w) _ _ k).trans (jCj k hk)⟩
 case round=>
  obtain⟨k,hk,F,rfl,C,A⟩:=hrel;have E:=jH F;clear F;have R:=juC (18+k)
  by_cases H:k<17
  .have hc:=A k H
   by_cases he:stB s p (txt (18+k))=true
   .have B:Hid (jpc s p=some (18+k)):=by
     show _=_;rw[<-E.o,show 17-k=(16-k)+1 by omega,jnY,if_pos he]
    clear A
    go_wp2_with (go_at_call 38;refine(jqb _ _ _ _ I (by unfold maxLen;omega)).mono ?_;rintro e w' ⟨rfl,rfl⟩)
    go_ret;exact⟨jrb (by rw[sgT,B.o]),C⟩
   .have he':stB s p (txt (18+k))=false:=by simpa using he
    have B:Hid (jnY (fun k=>stB s p (txt k)) (18+(k+1)) (17-(k+1))=jpc s p):=by
     show _=_;rw[<-E.o,show 17-k=(17-(k+1))+1 by omega,jnY,if_neg he];rfl
    clear he;have O:=jH A;clear A
    go_wp2_with (go_at_call 38;refine(jqb _ _ _ _ I (by unfold maxLen;omega)).mono ?_;rintro e w' ⟨rfl,rfl⟩)
    go_roundw
    case rel=>exact⟨k+1,by omega,B.o,by go_num,C,O.o⟩
    case measure=>simp[intOf];omega
  .have B:Hid (jpc s p=none):=by
    show _=_;rw[<-E.o,show 17-k=0 by omega,jnY]
   clear A
   go_wp2_with fail
   go_ret;exact⟨jrb (by rw[sgT,B.o]),C⟩
set_option maxRecDepth 100000 in
theorem jtw (t:ByteArray) (ht:0<t.size) (K:t.size<=1000) (w:World) :
 Calls Tryz.prog 42 #[.string t] w fun e w'=>e= .returned (.string (joS t))/\Below w.heap.size w w':=by
 go_enter Tryz.func42,Tryz.ntmps42
 go_wp2_with fail
 go_loopw [4] (fun u wr=>∃k:Nat,k<=15/\jnY (fun k=>(txt k).toList == t.toList) (3+k) (15-k)=kwK t/\u= .int .i64 k/\Below w.heap.size w wr/\(∀k:Nat,k<15->wr.cell? ⟨w.heap.size,k,none⟩=some (.string (txt (3+k))))) (fun u _=>15-(intOf u).toNat)
 case atStart=>exact⟨0,by omega,rfl,rfl,jB.alloc jN _,fun k hk=>(World.cell?_alloc_new (w:=w) _ _ k).trans (jFm k hk)⟩
 case round=>
  obtain⟨k,hk,H,rfl,C,A⟩:=hrel;have E:=jH H;clear H
  by_cases I:k<15
  .have hc:=A k I
   by_cases he:((txt (3+k)).toList == t.toList)=true
   .have B:Hid (kwK t=some (3+k)):=by
     show _=_;rw[<-E.o,show 15-k=(14-k)+1 by omega,jnY,if_pos he]
    clear A
    go_wp2_with fail
    go_ret;exact⟨jrb (by rw[joS,B.o];rfl),C⟩
   .have he':((txt (3+k)).toList == t.toList)=false:=by simpa using he
    have B:Hid (jnY (fun k=>(txt k).toList == t.toList) (3+(k+1)) (15-(k+1))=kwK t):=by
     show _=_;rw[<-E.o,show 15-k=(15-(k+1))+1 by omega,jnY,if_neg he];rfl
    clear he;have O:=jH A;clear A
    go_wp2_with fail
    go_roundw
    case rel=>exact⟨k+1,by omega,B.o,by go_num,C,O.o⟩
    case measure=>simp[intOf];omega
  .have B:Hid (kwK t=none):=by
    show _=_;rw[<-E.o,show 15-k=0 by omega,jnY]
   clear A
   by_cases hd:jnw t[0]=true
   .go_wp2_with (first|(go_at_call 72;refine(jqZ _ _).mono ?_;rintro e w' ⟨rfl,rfl⟩))
    go_ret;exact⟨jrb (by rw[joS,B.o,if_neg (by simp),dif_pos ht,if_pos hd];rfl),C⟩
   .have hd':jnw t[0]=false:=by simpa using hd
    clear hd
    by_cases F:jqr t[0]=true
    .go_wp2_with (first|(go_at_call 72;refine(jqZ _ _).mono ?_;rintro e w' ⟨rfl,rfl⟩)|(go_at_call 73;refine(juZ _ _).mono ?_;rintro e w' ⟨rfl,rfl⟩))
     go_ret;exact⟨jrb (by rw[joS,B.o,if_neg (by simp),dif_pos ht,if_neg (by simp[hd']),if_pos F];rfl),C⟩
    .have hl':jqr t[0]=false:=by simpa using F
     clear F
     go_wp2_with (first|(go_at_call 72;refine(jqZ _ _).mono ?_;rintro e w' ⟨rfl,rfl⟩)|(go_at_call 73;refine(juZ _ _).mono ?_;rintro e w' ⟨rfl,rfl⟩))
     go_ret;exact⟨jrb (by rw[joS,B.o,if_neg (by simp),dif_pos ht,if_neg (by simp[hd']),if_neg (by simp[hl'])]),C⟩
end Go.Proofs.YtlpmpelnhdoboaaGreatDoor
