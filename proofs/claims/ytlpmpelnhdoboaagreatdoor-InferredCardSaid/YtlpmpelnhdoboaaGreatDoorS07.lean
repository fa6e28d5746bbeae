import Derived.Test.YtlpmpelnhdoboaaGreatDoorS02
import Derived.Test.YtlpmpelnhdoboaaGreatDoorS03
import Derived.Deep.MidRow
set_option linter.unusedVariables false
set_option linter.unusedSimpArgs false
set_option maxHeartbeats 20000000
namespace Go.Proofs.YtlpmpelnhdoboaaGreatDoor
section
open Go.RowKit Sl
def Tok.cells (x:Tok):List Value:=[.int .i64 x.k,.int .i64 x.p,.int .i64 x.n,.string (jpH x.k x.t)]
theorem Tryz.info90:(Tryz.prog.info? 90).map (fun i=>(i.zero,i.size,i.bytes))=some (some (.agg #[.int .i64 0,.int .i64 0,.int .i64 0,.string ⟨#[]⟩]),4,40):=by kernel_rfl
def jnz (s:ByteArray):Tok:=⟨0,0,s.size,⟨#[]⟩⟩
theorem jxs (x:Tok):∀u ∈ Tok.cells x,u.oneCell'=true:=by
 intro u A;simp only[Tok.cells,Kk,List.not_mem_nil,or_false]at A;rcases A with rfl|rfl|rfl|rfl <;> rfl
theorem jCh (s:ByteArray) (hs:s.size<=1000) (w:World) :
 Calls Tryz.prog 29 #[.string s,.int .i64 0] w fun e w'=>e= .returned (.int .i64 (skp s 0))/\w'=w:=jxS s hs 0 (Yi _) w
def LR.e:LR->Nat
 | .bad e _=>e
 | .good _=>0
def LR.p:LR->Nat
 | .bad _ p=>p
 | .good _=>0
def jAB (s:ByteArray) (B:Nat) (w:World) (v:Value):LR->Prop
 | .good l=>w.ownsRow B 90 4 v (l ++[jnz s]).length ((l ++[jnz s]).flatMap Tok.cells)
 | .bad _ _=>v= .slice none 0 0
set_option maxRecDepth 100000 in
theorem jxO (s:ByteArray) (hs:s.size<=400) (w:World) (hT:TX w) (h0:0<w.heap.size) :
 Calls Tryz.prog 16 #[.string s] w fun e w'=>∃v,e= .returned (.tuple #[v,.int .i64 (LR.e (lex s (skp s 0))),.int .i64 (LR.p (lex s (skp s 0)))])/\jAB s w.heap.size w' v (lex s (skp s 0))/\Below w.heap.size w w':=by
 have hb:Below w.heap.size w w:=jB;obtain⟨i0,hi,W,h1,Y⟩:=info_parts Tryz.info90;have h4:=(jrI s s.size 0 (by omega) (by omega)).2
 obtain⟨R,hR⟩:∃R,R=lex s (skp s 0):=⟨_,rfl⟩
 rw[<-hR];have HR:=jH hR;clear hR
 go_enter Tryz.func16,Tryz.ntmps16
 go_wp2_with (go_at_call 29;refine(jCh s (by omega) _).mono ?_;rintro e w' ⟨rfl,rfl⟩)
 go_loopw [5,6] (fun v u wr=>∃(acc:List Tok) (k:Nat),acc.length<=k/\k<=s.size/\(lex s k).pre acc=R/\u= .int .i64 k/\wr.ownsRow w.heap.size 90 4 v acc.length (acc.flatMap Tok.cells)/\Below w.heap.size w wr) (fun _ u _=>s.size-(intOf u).toNat)
 case atStart=>exact⟨[],skp s 0,Yi _,h4,by rw[LR.pre_nil];exact HR.o.symm,rfl,World.ownsRow_lit w #[] 0 jN (by decide) rfl,hb.alloc jN _⟩
 case round=>
  obtain⟨acc,k,h8,hk,Z,rfl,C,F⟩:=hrel;have HX:=jH Z;clear Z;have O:=F.size;have h2:=hT.below F h0
  by_cases E:k<s.size
  .cases hw :jnA s k with
   |err e'=>
    have U:=jH hw
    have K:Hid (R= .bad e' k):=by
     show _=_;rw[<-HX.o,jtu E hw];rfl
    have he:e'=2\/e'=3:=jw2 hw;have h5:((e':Int) != 0)=true:=by rcases he with rfl|rfl <;> rfl
    clear hw he
    go_wp2_with (go_at_call 30;refine(jw3 s (by omega) k E _ h2 (by omega)).mono ?_;rw[U.o];rintro e w1 ⟨rfl,A⟩;simp only[WR.val])
    go_ret3;exact⟨.slice none 0 0,by rw[K.o];rfl,by rw[K.o];rfl,(F.trans (A.mono O)).alloc (by have:=A.size;omega) _⟩
   |ok k' n' t' z'=>
    have h9:=jrA hw;have h3:=jrI s s.size z' (by omega) (by omega);have U:=jH hw;clear hw
    go_wp2_with (first|(go_at_call 30;refine(jw3 s (by omega) k E _ h2 (by omega)).mono ?_;rw[U.o];rintro e w1 ⟨rfl,A⟩;simp only[WR.val];obtain⟨h7,h6⟩:=jt7 A)|(at_builtin;(refine wpList_append_own _ rfl (.tmp 31) (.tmp 33) 63 rfl w.heap.size 90 i0 _ 4 40 Tryz.underlying63 hi W h1 Y rfl (by decide) _ _ _ rfl (((own_below C A).alloc _).alloc _) _ 1 1 (Tok.cells ⟨k',n',k,t'⟩) rfl rfl (Ja _ _ _ _ (by simp)) ?_ ?_ ?_ ?_ ?_;exact jxs _;(unfold maxLen;omega);omega;(have:=A.size;simp;omega);intro v' w3 B I _;have H:=jmV F O A _ _ I (jh7 C)))|(go_at_call 29;refine(jxS s (by omega) _ (by omega) _).mono ?_;rintro e w' ⟨rfl,rfl⟩))
    go_roundw
    case rel=>exact⟨acc ++[⟨k',n',k,t'⟩],skp s z',by simp;omega,h3.2,by rw[<-HX.o,jtt E U.o,LR.pre_pre],rfl,by simpa using B,H⟩
    case measure=>simp[intOf];omega
  .have K:Hid (R= .good acc):=by
    show _=_;rw[<-HX.o,jyZ s k E];simp[LR.pre]
   go_wp2_with (at_builtin;refine wpList_append_own _ rfl (.tmp 38) (.tmp 42) 63 rfl w.heap.size 90 i0 _ 4 40 Tryz.underlying63 hi W h1 Y rfl (by decide) _ _ _ rfl (C.alloc _) _ 1 1 (Tok.cells (jnz s)) rfl rfl (Ja _ _ _ _ rfl) ?_ ?_ ?_ ?_ ?_;exact jxs _;(unfold maxLen;omega);omega;(simp;omega);intro v' w3 B I _;have H:=jmb F O _ I (jh7 C))
   go_ret3;refine⟨v',?_,?_,H⟩
   .rw[K.o];rfl
   .rw[K.o];simpa[jAB] using B
theorem jB3 (s:ByteArray) (hs:400<s.size) (A:s.size<=maxLen) (w:World) :
 Calls Tryz.prog 16 #[.string s] w fun e w'=>e= .returned (.tuple #[.slice none 0 0,.int .i64 1,.int .i64 0])/\w'=w:=by
 unfold maxLen at A
 go_enter Tryz.func16,Tryz.ntmps16
 go_wp2_with fail
 go_ret3;exact⟨rfl,rfl⟩
end
namespace Tg
open Go.RowKit
theorem jd5 {b:Nat}{t:TypeId}:∀(vs:List Value) (o:Nat) (w:World) (arr:Array Value),w.heap[b]? =some (.cells arr t (0,0))->o+vs.length<=arr.size->
 ∃arr',(w.setCells b o vs).heap[b]? =some (.cells arr' t (0,0))/\arr'.size=arr.size/\(∀i,i<vs.length->arr'[o+i]? =vs[i]?)/\∀j,(j<o\/o+vs.length<=j)->arr'[j]? =arr[j]?
 |[],o,w,arr,h,_=>⟨arr,h,rfl,fun i hi=>absurd hi (Nat.not_lt_zero _),fun _ _=>rfl⟩
 |v ::r,o,w,arr,h,hl=>by
  simp only[Yk]at hl;obtain⟨arr',B,E,C,A⟩:=jd5 r (o+1) _ _ (jf h o v) (by rw[Array.size_setIfInBounds];omega);refine⟨arr',B,by rw[E,Array.size_setIfInBounds],fun i hi=>?_,fun j hj=>?_⟩
  .cases i with
   |zero=>
    rw[Kz,A o (by omega),Array.getElem?_setIfInBounds_self_of_lt (by omega)];rfl
   |succ i=>
    simp only[Yk]at hi;rw[show o+(i+1)=o+1+i by omega,C i (by omega)];rfl
  .simp only[Yk]at hj
   rw[A j (by omega),Array.getElem?_setIfInBounds_ne (by omega)]
theorem jn4.sets {r:Nat}{w:World}:∀(vs:List Value) (o:Nat) (w1:World),jn4 r w w1->jn4 r w (w1.setCells r o vs)
 |[],_,_,h=>h
 |v ::vs,o,w1,h=>by rw[World.setCells];exact jn4.sets vs (o+1) _ (h.set o v)
theorem Jv {P:Program}{ops:Array Oper}{rest:List Oper}{op:Oper}{a:Act}{w:World}{Q:Exit->Act->World->Prop}{b:Nat}{arr:Array Value}{t:TypeId}(A:w.heap[b]? =some (.cells arr t (0,0))) (C:op.guard=none) (B:TypeId) (x y:Operand) (E:op.op= .store B x y)
 (cells:Array Value) (I:a.eval x= .pointer (some ⟨b,0,none⟩)) (H:a.eval y= .agg cells) (F:arr.size=cells.size)
 (hi:(P.info? B).map (·.size)=some cells.size) (K:cells.all (·.oneCell')=true)
 (h:∀w',w'.heap[b]? =some (.cells cells t (0,0))->jn4 b w w'->wpList P ops Q rest (a.put op.dst undef) w'):wpList P ops Q (op ::rest) a w:=by
 refine wpList_store_mid C B x y E b 0 cells I H (fun j hj=>?_) hi K (h _ ?_ (jn4.sets _ _ _ (jn4.refl _ _)))
 .refine⟨?_,je A _⟩
  rw[Kc,(JY A j).1,Array.getElem?_eq_getElem (by omega)];rfl
 .obtain⟨arr',e1,e2,e3,e4⟩:=jd5 cells.toList 0 w arr A (by simp;omega)
  rw[e1]
  have:arr'=cells:=by
   apply Array.ext_getElem?;intro i
   by_cases O:i<cells.size
   .have:=e3 i (by simpa using O)
    rw[Kc]at this;rw[this];simp
   .rw[Array.getElem?_eq_none (by omega),Array.getElem?_eq_none (by omega)]
  rw[this]
end Tg
end Go.Proofs.YtlpmpelnhdoboaaGreatDoor
