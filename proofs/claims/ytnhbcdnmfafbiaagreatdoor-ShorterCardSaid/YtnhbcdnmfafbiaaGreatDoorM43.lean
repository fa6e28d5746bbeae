import Derived.Test.YtnhbcdnmfafbiaaGreatDoorM38
set_option linter.unusedVariables false
set_option linter.unusedSimpArgs false
set_option maxHeartbeats 20000000
namespace Go.Proofs.YtnhbcdnmfafbiaaGreatDoor
namespace V
open Go.RowKit
variable {T:Tb}
theorem Does.wkv {f:Nat}{xs rs B:List Arg}{bs:List (List C)}(h:Does T f xs rs bs) (E:jKw rs=false) (h2:jKw B=false) (hx:WA (jKe RK rs) (jKe RK B)):Does T f xs B bs:=⟨h.1,fun c hc hst hX hu=>by
 refine(h.2 c hc hst hX hu).mono ?_;rintro e w' ⟨c',v,G,a2,a3,a4,a5,J,M⟩;have P:jKl xs rs bs=⟨[(RK,jKe RK rs)],bpR 0 xs bs⟩:=by unfold jKl;rw[E];simp
 have V:jKl xs B bs=⟨[(RK,jKe RK B)],bpR 0 xs bs⟩:=by unfold jKl;rw[h2];simp
 have Y:Wk T (jKl xs rs bs) (jKl xs B bs):=by
  rw[P,V]
  exact Wk.tm (tm:=[(RK,jKe RK rs)]) (tm':=[(RK,jKe RK B)]) fun t=>by
   show WA (if RK=t then _ else _) (if RK=t then _ else _)
   split
   .exact hx
   .exact fun _ _ _ _ _ h=>h
 obtain⟨O,Z,k2,k3,k4,k5,k6⟩:=Y c' a3 a5 J
 exact⟨O,v,G,by rw[k4];exact a2,Z,a4.trans k2,k3,k6,by rw[k5];exact M⟩⟩
theorem Does.wk2 {f:Nat}{xs:List Arg}{x y B:C}{bs:List (List C)}(h:Does T f xs [.pl (.c x),.pl (.c y)] bs) (hy:Wc y B):Does T f xs [.pl (.c x),.pl (.c B)] bs:=h.wkv rfl rfl fun w A mo fp v hv=>by
 obtain⟨arr,G,J,E⟩:∃arr:Array Value,v= .tuple arr/\arr.size=2/\∀(j:Nat) z u,[Av.c x,.c y][j]? =some z->arr[j]? =some u->TV0 w A mo fp z u:=hv;refine⟨arr,G,J,fun j z u hz hu=>?_⟩
 match j with
 |0=>cases hz;exact E 0 _ u rfl hu
 |1=>
  cases hz;have:RC w A y u []:=E 1 _ u rfl hu;exact this.wc hy
 |j+2=>cases hz
end V
end Go.Proofs.YtnhbcdnmfafbiaaGreatDoor
