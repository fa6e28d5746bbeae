import Derived.Test.YtlpmpelnhdoboaaGreatDoorS09
import Derived.Test.YtlpmpelnhdoboaaGreatDoorS10
import Derived.Test.YtlpmpelnhdoboaaGreatDoorS11
import Derived.WalkSmall
import Derived.BigQuiet
import Derived.Deep.QuietTactic
set_option linter.unusedVariables false
set_option linter.unusedSimpArgs false
set_option maxHeartbeats 20000000
namespace Go.Proofs.YtlpmpelnhdoboaaGreatDoor
open Go.RowKit Sl
def jC (k:Nat):ByteArray:=jpz k (txt k)
def jnK:X->ByteArray
 | .Expr=>⟨#[69,120,112,114]⟩
 | .Let=>⟨#[76,101,116]⟩
 | .Rest=>⟨#[82,101,115,116]⟩
 | .Comparison=>⟨#[67,111,109,112,97,114,105,115,111,110]⟩
 | .Compared=>⟨#[67,111,109,112,97,114,101,100]⟩
 | .Sum=>⟨#[83,117,109]⟩
 | .Terms=>⟨#[84,101,114,109,115]⟩
 | .Product=>⟨#[80,114,111,100,117,99,116]⟩
 | .Factors=>⟨#[70,97,99,116,111,114,115]⟩
 | .Sign=>⟨#[83,105,103,110]⟩
 | .Call=>⟨#[67,97,108,108]⟩
 | .Operand=>⟨#[79,112,101,114,97,110,100]⟩
 | .Index=>⟨#[73,110,100,101,120]⟩
 | .Atom=>⟨#[65,116,111,109]⟩
 | .Bracket=>⟨#[66,114,97,99,107,101,116]⟩
 | .Param 0=>⟨#[80,97,114,97,109,48]⟩
 | .Param 1=>⟨#[80,97,114,97,109,49]⟩
 | .Param 2=>⟨#[80,97,114,97,109,50]⟩
 | .Param 3=>⟨#[80,97,114,97,109,51]⟩
 | .Name 0=>⟨#[78,97,109,101,48]⟩
 | .Name 1=>⟨#[78,97,109,101,49]⟩
 | .Name 2=>⟨#[78,97,109,101,50]⟩
 | .Name 3=>⟨#[78,97,109,101,51]⟩
 | .Name 4=>⟨#[78,97,109,101,52]⟩
 | .Argument 0=>⟨#[65,114,103,117,109,101,110,116,48]⟩
 | .Argument 1=>⟨#[65,114,103,117,109,101,110,116,49]⟩
 | .Argument 2=>⟨#[65,114,103,117,109,101,110,116,50]⟩
 | .Argument 3=>⟨#[65,114,103,117,109,101,110,116,51]⟩
 | .Argument 4=>⟨#[65,114,103,117,109,101,110,116,52]⟩
 | .Item 0=>⟨#[73,116,101,109,48]⟩
 | .Item 1=>⟨#[73,116,101,109,49]⟩
 | .Item 2=>⟨#[73,116,101,109,50]⟩
 | .Item 3=>⟨#[73,116,101,109,51]⟩
 | .Item 4=>⟨#[73,116,101,109,52]⟩
 | .Item 5=>⟨#[73,116,101,109,53]⟩
 |_=>⟨#[]⟩
def jpa:Sy->ByteArray
 | .tm k=>jC k
 | .nt x=>jnK x
def okX:X->Bool
 | .Param m=>decide (m<=3)
 | .Name m=>decide (m<=4)
 | .Argument m=>decide (m<=4)
 | .Item m=>decide (m<=5)
 |_=>true
def jpy:Sy->Bool
 | .tm k=>decide (k<35)
 | .nt x=>okX x
theorem jnQ (c:Nat) (A:c<35) (k:Nat) (hk:k<35):((jC k).toList == (jC c).toList)=decide (k=c):=by
 have:∀k c:Fin 35,((jC k.val).data.toList == (jC c.val).data.toList)=decide (k.val=c.val):=by decide
 have h:=this ⟨k,hk⟩ ⟨c,A⟩;rw[Ye,Ye];exact h
variable {k:Nat}
theorem nk1 (hk:k<35):((jC k).toList == [110,117,109])=decide (k=1):=by
 have h:=jnQ 1 (by decide) k hk;rw[show(jC 1).toList=[110,117,109] by rw[Ye];rfl]at h;exact h
theorem nk2 (hk:k<35):((jC k).toList == [105,100])=decide (k=2):=by
 have h:=jnQ 2 (by decide) k hk;rw[show(jC 2).toList=[105,100] by rw[Ye];rfl]at h;exact h
theorem nk3 (hk:k<35):((jC k).toList == [108,101,116])=decide (k=3):=by
 have h:=jnQ 3 (by decide) k hk;rw[show(jC 3).toList=[108,101,116] by rw[Ye];rfl]at h;exact h
theorem nk4 (hk:k<35):((jC k).toList == [114,101,99])=decide (k=4):=by
 have h:=jnQ 4 (by decide) k hk;rw[show(jC 4).toList=[114,101,99] by rw[Ye];rfl]at h;exact h
theorem nk5 (hk:k<35):((jC k).toList == [105,110])=decide (k=5):=by
 have h:=jnQ 5 (by decide) k hk;rw[show(jC 5).toList=[105,110] by rw[Ye];rfl]at h;exact h
theorem nk6 (hk:k<35):((jC k).toList == [105,102])=decide (k=6):=by
 have h:=jnQ 6 (by decide) k hk;rw[show(jC 6).toList=[105,102] by rw[Ye];rfl]at h;exact h
theorem nk7 (hk:k<35):((jC k).toList == [116,104,101,110])=decide (k=7):=by
 have h:=jnQ 7 (by decide) k hk;rw[show(jC 7).toList=[116,104,101,110] by rw[Ye];rfl]at h;exact h
theorem nk8 (hk:k<35):((jC k).toList == [101,108,115,101])=decide (k=8):=by
 have h:=jnQ 8 (by decide) k hk;rw[show(jC 8).toList=[101,108,115,101] by rw[Ye];rfl]at h;exact h
theorem nk9 (hk:k<35):((jC k).toList == [102,117,110])=decide (k=9):=by
 have h:=jnQ 9 (by decide) k hk;rw[show(jC 9).toList=[102,117,110] by rw[Ye];rfl]at h;exact h
theorem jsq (hk:k<35):((jC k).toList == [110,111,116])=decide (k=10):=by
 have h:=jnQ 10 (by decide) k hk;rw[show(jC 10).toList=[110,111,116] by rw[Ye];rfl]at h;exact h
theorem jrj (hk:k<35):((jC k).toList == [116,114,117,101])=decide (k=11):=by
 have h:=jnQ 11 (by decide) k hk;rw[show(jC 11).toList=[116,114,117,101] by rw[Ye];rfl]at h;exact h
theorem jri (hk:k<35):((jC k).toList == [102,97,108,115,101])=decide (k=12):=by
 have h:=jnQ 12 (by decide) k hk;rw[show(jC 12).toList=[102,97,108,115,101] by rw[Ye];rfl]at h;exact h
theorem jrh (hk:k<35):((jC k).toList == [114,101,97,100])=decide (k=13):=by
 have h:=jnQ 13 (by decide) k hk;rw[show(jC 13).toList=[114,101,97,100] by rw[Ye];rfl]at h;exact h
theorem jqU (hk:k<35):((jC k).toList == [112,114,105,110,116])=decide (k=14):=by
 have h:=jnQ 14 (by decide) k hk;rw[show(jC 14).toList=[112,114,105,110,116] by rw[Ye];rfl]at h;exact h
theorem jrg (hk:k<35):((jC k).toList == [108,101,110])=decide (k=15):=by
 have h:=jnQ 15 (by decide) k hk;rw[show(jC 15).toList=[108,101,110] by rw[Ye];rfl]at h;exact h
theorem jrQ (hk:k<35):((jC k).toList == [97,114,114,97,121])=decide (k=16):=by
 have h:=jnQ 16 (by decide) k hk;rw[show(jC 16).toList=[97,114,114,97,121] by rw[Ye];rfl]at h;exact h
theorem jsp (hk:k<35):((jC k).toList == [112,117,116])=decide (k=17):=by
 have h:=jnQ 17 (by decide) k hk;rw[show(jC 17).toList=[112,117,116] by rw[Ye];rfl]at h;exact h
theorem jpO (hk:k<35):((jC k).toList == [46,40])=decide (k=18):=by
 have h:=jnQ 18 (by decide) k hk;rw[show(jC 18).toList=[46,40] by rw[Ye];rfl]at h;exact h
theorem nk19 (hk:k<35):((jC k).toList == [60,62])=decide (k=19):=by
 have h:=jnQ 19 (by decide) k hk;rw[show(jC 19).toList=[60,62] by rw[Ye];rfl]at h;exact h
theorem nk20 (hk:k<35):((jC k).toList == [60,61])=decide (k=20):=by
 have h:=jnQ 20 (by decide) k hk;rw[show(jC 20).toList=[60,61] by rw[Ye];rfl]at h;exact h
theorem nk21 (hk:k<35):((jC k).toList == [62,61])=decide (k=21):=by
 have h:=jnQ 21 (by decide) k hk;rw[show(jC 21).toList=[62,61] by rw[Ye];rfl]at h;exact h
theorem nk22 (hk:k<35):((jC k).toList == [45,62])=decide (k=22):=by
 have h:=jnQ 22 (by decide) k hk;rw[show(jC 22).toList=[45,62] by rw[Ye];rfl]at h;exact h
theorem joq (hk:k<35):((jC k).toList == [40])=decide (k=23):=by
 have h:=jnQ 23 (by decide) k hk;rw[show(jC 23).toList=[40] by rw[Ye];rfl]at h;exact h
theorem jrP (hk:k<35):((jC k).toList == [41])=decide (k=24):=by
 have h:=jnQ 24 (by decide) k hk;rw[show(jC 24).toList=[41] by rw[Ye];rfl]at h;exact h
theorem joR (hk:k<35):((jC k).toList == [44])=decide (k=25):=by
 have h:=jnQ 25 (by decide) k hk;rw[show(jC 25).toList=[44] by rw[Ye];rfl]at h;exact h
theorem jvG (hk:k<35):((jC k).toList == [59])=decide (k=26):=by
 have h:=jnQ 26 (by decide) k hk;rw[show(jC 26).toList=[59] by rw[Ye];rfl]at h;exact h
theorem nk27 (hk:k<35):((jC k).toList == [61])=decide (k=27):=by
 have h:=jnQ 27 (by decide) k hk;rw[show(jC 27).toList=[61] by rw[Ye];rfl]at h;exact h
theorem nk28 (hk:k<35):((jC k).toList == [60])=decide (k=28):=by
 have h:=jnQ 28 (by decide) k hk;rw[show(jC 28).toList=[60] by rw[Ye];rfl]at h;exact h
theorem nk29 (hk:k<35):((jC k).toList == [62])=decide (k=29):=by
 have h:=jnQ 29 (by decide) k hk;rw[show(jC 29).toList=[62] by rw[Ye];rfl]at h;exact h
theorem jtn (hk:k<35):((jC k).toList == [43])=decide (k=30):=by
 have h:=jnQ 30 (by decide) k hk;rw[show(jC 30).toList=[43] by rw[Ye];rfl]at h;exact h
theorem jqt (hk:k<35):((jC k).toList == [45])=decide (k=31):=by
 have h:=jnQ 31 (by decide) k hk;rw[show(jC 31).toList=[45] by rw[Ye];rfl]at h;exact h
theorem jso (hk:k<35):((jC k).toList == [42])=decide (k=32):=by
 have h:=jnQ 32 (by decide) k hk;rw[show(jC 32).toList=[42] by rw[Ye];rfl]at h;exact h
theorem jtm (hk:k<35):((jC k).toList == [47])=decide (k=33):=by
 have h:=jnQ 33 (by decide) k hk;rw[show(jC 33).toList=[47] by rw[Ye];rfl]at h;exact h
theorem jvF (hk:k<35):((jC k).toList == [37])=decide (k=34):=by
 have h:=jnQ 34 (by decide) k hk;rw[show(jC 34).toList=[37] by rw[Ye];rfl]at h;exact h
theorem jwz (hk:k<35):jpi (jC k)=jnJ k:=by
 unfold jpi jnJ;rw[nk27 hk,nk19 hk,nk28 hk,nk20 hk,nk29 hk,nk21 hk,Bool.eq_iff_iff];simp <;> omega
theorem jps (hk:k<35):joZ (jC k)=jot k:=by
 unfold joZ jot;rw[nk1 hk,nk2 hk,jrj hk,jri hk,jrh hk,Bool.eq_iff_iff];simp <;> omega
def jnG (B:Nat) (e:Ending) (w':World) (r:Option (List Sy)):Prop:=
 ∃v,e= .returned (.tuple #[v,.bool r.isSome])/\(∀xs,r=some xs->w'.ownsRow B 9 1 v xs.length ((xs.map jpa).map Value.string))
variable {B n:Nat}{w':World}{v:Value}{ys:List ByteArray}
theorem jCF {e:Ending}{xs:List Sy}(he:e= .returned (.tuple #[v,.bool true])) (C:w'.ownsRow B 9 1 v n (ys.map Value.string)) (A:n=xs.length) (E:ys=xs.map jpa):jnG B e w' (some xs):=by
 subst A E;exact⟨v,he,fun xs' h=>by injection h with h;subst h;exact C⟩
theorem jCG {e:Ending}(he:e= .returned (.tuple #[v,.bool false])):jnG B e w' none:=
 ⟨v,he,fun xs' h=>by cases h⟩
variable {x:X}{s:ByteArray}{w:World}
theorem rj {xs:List Sy}(h:RP (jC k) s true ys w) (A:ys=xs.map jpa) (C:jm3 x k=some xs) :
 Calls Tryz.prog 45 #[.string s,.string (jC k)] w fun e w'=>jnG w.heap.size e w' (jm3 x k)/\Below w.heap.size w w':=by
 refine Calls.mono h ?_;rintro e w' ⟨v,he,F,E⟩;rw[C];exact⟨jCF he F (by rw[A];simp) A,E⟩
theorem rn (h:RP (jC k) s false ys w) (A:jm3 x k=none) :
 Calls Tryz.prog 45 #[.string s,.string (jC k)] w fun e w'=>jnG w.heap.size e w' (jm3 x k)/\Below w.heap.size w w':=by
 refine Calls.mono h ?_;rintro e w' ⟨v,he,E,C⟩;rw[A];exact⟨jCG he,C⟩
theorem jC5 (hk:k<35) (w:World):Calls Tryz.prog 45 #[.string (jnK (.Expr)),.string (jC k)] w fun e w'=>jnG w.heap.size e w' (jm3 (.Expr) k)/\Below w.heap.size w w':=by
 by_cases c0:k=3
 .exact rj (xs:=[.tm 3,.nt (.Let)]) (ra (.Expr_0 (by rw[nk3 hk];simp;exact c0)) w) rfl (by simp[jm3,jm6,jm5,jnc,c0])
 .by_cases c1:k=6
  .exact rj (xs:=[.tm 6,.nt (.Expr),.tm 7,.nt (.Expr),.tm 8,.nt (.Expr)]) (ra (.Expr_1 (by rw[nk3 hk];simp;exact c0) (by rw[nk6 hk];simp;exact c1)) w) rfl (by simp[jm3,jm6,jm5,jnc,c0,c1])
  .by_cases c2:k=9
   .exact rj (xs:=[.tm 9,.tm 2,.nt (.Param 3),.tm 22,.nt (.Expr)]) (ra (.Expr_2 (by rw[nk3 hk];simp;exact c0) (by rw[nk6 hk];simp;exact c1) (by rw[nk9 hk];simp;exact c2)) w) rfl (by simp[jm3,jm6,jm5,jnc,c0,c1,c2])
   .exact rj (xs:=[.nt (.Comparison),.nt (.Rest)]) (ra (.Expr_3 (by rw[nk3 hk];simp;exact c0) (by rw[nk6 hk];simp;exact c1) (by rw[nk9 hk];simp;exact c2)) w) rfl (by simp[jm3,jm6,jm5,jnc,c0,c1,c2])
theorem jCW (hk:k<35) (w:World):Calls Tryz.prog 45 #[.string (jnK (.Let)),.string (jC k)] w fun e w'=>jnG w.heap.size e w' (jm3 (.Let) k)/\Below w.heap.size w w':=by
 by_cases c0:k=4
 .exact rj (xs:=[.tm 4,.tm 2,.tm 2,.nt (.Param 3),.tm 27,.nt (.Expr),.tm 5,.nt (.Expr)]) (ra (.Let_0 (by rw[nk4 hk];simp;exact c0)) w) rfl (by simp[jm3,jm6,jm5,jnc,c0])
 .by_cases c1:k=23
  .exact rj (xs:=[.tm 23,.tm 2,.tm 25,.tm 2,.nt (.Name 4),.tm 24,.tm 27,.nt (.Expr),.tm 5,.nt (.Expr)]) (ra (.Let_1 (by rw[nk4 hk];simp;exact c0) (by rw[joq hk];simp;exact c1)) w) rfl (by simp[jm3,jm6,jm5,jnc,c0,c1])
  .exact rj (xs:=[.tm 2,.tm 27,.nt (.Expr),.tm 5,.nt (.Expr)]) (ra (.Let_2 (by rw[nk4 hk];simp;exact c0) (by rw[joq hk];simp;exact c1)) w) rfl (by simp[jm3,jm6,jm5,jnc,c0,c1])
theorem jCK (hk:k<35) (w:World):Calls Tryz.prog 45 #[.string (jnK (.Rest)),.string (jC k)] w fun e w'=>jnG w.heap.size e w' (jm3 (.Rest) k)/\Below w.heap.size w w':=by
 by_cases c0:k=26
 .exact rj (xs:=[.tm 26,.nt (.Expr)]) (ra (.Rest_0 (by rw[jvG hk];simp;exact c0)) w) rfl (by simp[jm3,jm6,jm5,jnc,c0])
 .exact rj (xs:=[]) (ra (.Rest_1 (by rw[jvG hk];simp;exact c0)) w) rfl (by simp[jm3,jm6,jm5,jnc,c0])
theorem jC6 (hk:k<35) (w:World):Calls Tryz.prog 45 #[.string (jnK (.Comparison)),.string (jC k)] w fun e w'=>jnG w.heap.size e w' (jm3 (.Comparison) k)/\Below w.heap.size w w':=by
 exact rj (xs:=[.nt (.Sum),.nt (.Compared)]) (ra (.Comparison_0) w) rfl (by simp[jm3,jm6,jm5,jnc])
theorem jC7 (hk:k<35) (w:World):Calls Tryz.prog 45 #[.string (jnK (.Compared)),.string (jC k)] w fun e w'=>jnG w.heap.size e w' (jm3 (.Compared) k)/\Below w.heap.size w w':=by
 by_cases c0:jnJ k=true
 .exact rj (xs:=[.tm k,.nt (.Sum)]) (ra (.Compared_0 (by rw[jwz hk];exact c0)) w) rfl (by simp[jm3,jm6,jm5,jnc,c0])
 .exact rj (xs:=[]) (ra (.Compared_1 (by rw[jwz hk];simpa using c0)) w) rfl (by simp[jm3,jm6,jm5,jnc,c0])
theorem jCI (hk:k<35) (w:World):Calls Tryz.prog 45 #[.string (jnK (.Sum)),.string (jC k)] w fun e w'=>jnG w.heap.size e w' (jm3 (.Sum) k)/\Below w.heap.size w w':=by
 exact rj (xs:=[.nt (.Product),.nt (.Terms)]) (ra (.Sum_0) w) rfl (by simp[jm3,jm6,jm5,jnc])
theorem jCH (hk:k<35) (w:World):Calls Tryz.prog 45 #[.string (jnK (.Terms)),.string (jC k)] w fun e w'=>jnG w.heap.size e w' (jm3 (.Terms) k)/\Below w.heap.size w w':=by
 by_cases c0:k=30
 .exact rj (xs:=[.tm k,.nt (.Product),.nt (.Terms)]) (ra (.Terms_0 (by rw[jtn hk];simp;exact c0)) w) rfl (by simp[jm3,jm6,jm5,jnc,c0])
 .by_cases c1:k=31
  .exact rj (xs:=[.tm k,.nt (.Product),.nt (.Terms)]) (ra (.Terms_1 (by rw[jtn hk];simp;exact c0) (by rw[jqt hk];simp;exact c1)) w) rfl (by simp[jm3,jm6,jm5,jnc,c0,c1])
  .exact rj (xs:=[]) (ra (.Terms_2 (by rw[jtn hk];simp;exact c0) (by rw[jqt hk];simp;exact c1)) w) rfl (by simp[jm3,jm6,jm5,jnc,c0,c1])
theorem jCL (hk:k<35) (w:World):Calls Tryz.prog 45 #[.string (jnK (.Product)),.string (jC k)] w fun e w'=>jnG w.heap.size e w' (jm3 (.Product) k)/\Below w.heap.size w w':=by
 exact rj (xs:=[.nt (.Sign),.nt (.Factors)]) (ra (.Product_0) w) rfl (by simp[jm3,jm6,jm5,jnc])
theorem jC4 (hk:k<35) (w:World):Calls Tryz.prog 45 #[.string (jnK (.Factors)),.string (jC k)] w fun e w'=>jnG w.heap.size e w' (jm3 (.Factors) k)/\Below w.heap.size w w':=by
 by_cases c0:k=32
 .exact rj (xs:=[.tm k,.nt (.Sign),.nt (.Factors)]) (ra (.Factors_0 (by rw[jso hk];simp;exact c0)) w) rfl (by simp[jm3,jm6,jm5,jnc,c0])
 .by_cases c1:k=33
  .exact rj (xs:=[.tm k,.nt (.Sign),.nt (.Factors)]) (ra (.Factors_1 (by rw[jso hk];simp;exact c0) (by rw[jtm hk];simp;exact c1)) w) rfl (by simp[jm3,jm6,jm5,jnc,c0,c1])
  .by_cases c2:k=34
   .exact rj (xs:=[.tm k,.nt (.Sign),.nt (.Factors)]) (ra (.Factors_2 (by rw[jso hk];simp;exact c0) (by rw[jtm hk];simp;exact c1) (by rw[jvF hk];simp;exact c2)) w) rfl (by simp[jm3,jm6,jm5,jnc,c0,c1,c2])
   .exact rj (xs:=[]) (ra (.Factors_3 (by rw[jso hk];simp;exact c0) (by rw[jtm hk];simp;exact c1) (by rw[jvF hk];simp;exact c2)) w) rfl (by simp[jm3,jm6,jm5,jnc,c0,c1,c2])
theorem jCJ (hk:k<35) (w:World):Calls Tryz.prog 45 #[.string (jnK (.Sign)),.string (jC k)] w fun e w'=>jnG w.heap.size e w' (jm3 (.Sign) k)/\Below w.heap.size w w':=by
 by_cases c0:k=31
 .exact rj (xs:=[.tm k,.nt (.Sign)]) (ra (.Sign_0 (by rw[jqt hk];simp;exact c0)) w) rfl (by simp[jm3,jm6,jm5,jnc,c0])
 .by_cases c1:k=10
  .exact rj (xs:=[.tm k,.nt (.Sign)]) (ra (.Sign_1 (by rw[jqt hk];simp;exact c0) (by rw[jsq hk];simp;exact c1)) w) rfl (by simp[jm3,jm6,jm5,jnc,c0,c1])
  .exact rj (xs:=[.nt (.Call)]) (ra (.Sign_2 (by rw[jqt hk];simp;exact c0) (by rw[jsq hk];simp;exact c1)) w) rfl (by simp[jm3,jm6,jm5,jnc,c0,c1])
theorem jC8 (hk:k<35) (w:World):Calls Tryz.prog 45 #[.string (jnK (.Call)),.string (jC k)] w fun e w'=>jnG w.heap.size e w' (jm3 (.Call) k)/\Below w.heap.size w w':=by
 by_cases c0:k=14
 .exact rj (xs:=[.tm k,.nt (.Operand)]) (ra (.Call_0 (by rw[jqU hk];simp;exact c0)) w) rfl (by simp[jm3,jm6,jm5,jnc,c0])
 .by_cases c1:k=15
  .exact rj (xs:=[.tm k,.nt (.Operand)]) (ra (.Call_1 (by rw[jqU hk];simp;exact c0) (by rw[jrg hk];simp;exact c1)) w) rfl (by simp[jm3,jm6,jm5,jnc,c0,c1])
  .by_cases c2:k=16
   .exact rj (xs:=[.tm k,.nt (.Operand),.nt (.Operand)]) (ra (.Call_2 (by rw[jqU hk];simp;exact c0) (by rw[jrg hk];simp;exact c1) (by rw[jrQ hk];simp;exact c2)) w) rfl (by simp[jm3,jm6,jm5,jnc,c0,c1,c2])
   .by_cases c3:k=17
    .exact rj (xs:=[.tm k,.nt (.Operand),.nt (.Operand),.nt (.Operand)]) (ra (.Call_3 (by rw[jqU hk];simp;exact c0) (by rw[jrg hk];simp;exact c1) (by rw[jrQ hk];simp;exact c2) (by rw[jsp hk];simp;exact c3)) w) rfl (by simp[jm3,jm6,jm5,jnc,c0,c1,c2,c3])
    .exact rj (xs:=[.nt (.Operand),.nt (.Argument 4)]) (ra (.Call_4 (by rw[jqU hk];simp;exact c0) (by rw[jrg hk];simp;exact c1) (by rw[jrQ hk];simp;exact c2) (by rw[jsp hk];simp;exact c3)) w) rfl (by simp[jm3,jm6,jm5,jnc,c0,c1,c2,c3])
theorem jCQ (hk:k<35) (w:World):Calls Tryz.prog 45 #[.string (jnK (.Operand)),.string (jC k)] w fun e w'=>jnG w.heap.size e w' (jm3 (.Operand) k)/\Below w.heap.size w w':=by
 exact rj (xs:=[.nt (.Atom),.nt (.Index)]) (ra (.Operand_0) w) rfl (by simp[jm3,jm6,jm5,jnc])
theorem jC3 (hk:k<35) (w:World):Calls Tryz.prog 45 #[.string (jnK (.Index)),.string (jC k)] w fun e w'=>jnG w.heap.size e w' (jm3 (.Index) k)/\Below w.heap.size w w':=by
 by_cases c0:k=18
 .exact rj (xs:=[.tm 18,.nt (.Expr),.tm 24,.nt (.Index)]) (rb (.Index_0 (by rw[jpO hk];simp;exact c0)) w) rfl (by simp[jm3,jm6,jm5,jnc,c0])
 .exact rj (xs:=[]) (rb (.Index_1 (by rw[jpO hk];simp;exact c0)) w) rfl (by simp[jm3,jm6,jm5,jnc,c0])
theorem jDa (hk:k<35) (w:World):Calls Tryz.prog 45 #[.string (jnK (.Atom)),.string (jC k)] w fun e w'=>jnG w.heap.size e w' (jm3 (.Atom) k)/\Below w.heap.size w w':=by
 by_cases c0:k=23
 .exact rj (xs:=[.tm 23,.nt (.Bracket)]) (rb (.Atom_0 (by rw[joq hk];simp;exact c0)) w) rfl (by simp[jm3,jm6,jm5,jnc,c0])
 .by_cases c1:jot k=true
  .exact rj (xs:=[.tm k]) (rb (.Atom_1 (by rw[joq hk];simp;exact c0) (by rw[jps hk];exact c1)) w) rfl (by simp[jm3,jm6,jm5,jnc,c0,c1])
  .exact rn (rb (.Atom_2 (by rw[joq hk];simp;exact c0) (by rw[jps hk];simpa using c1)) w) (by simp[jm3,c0,c1])
theorem jC9 (hk:k<35) (w:World):Calls Tryz.prog 45 #[.string (jnK (.Bracket)),.string (jC k)] w fun e w'=>jnG w.heap.size e w' (jm3 (.Bracket) k)/\Below w.heap.size w w':=by
 by_cases c0:k=24
 .exact rj (xs:=[.tm 24]) (rb (.Bracket_0 (by rw[jrP hk];simp;exact c0)) w) rfl (by simp[jm3,jm6,jm5,jnc,c0])
 .exact rj (xs:=[.nt (.Expr),.nt (.Item 5),.tm 24]) (rb (.Bracket_1 (by rw[jrP hk];simp;exact c0)) w) rfl (by simp[jm3,jm6,jm5,jnc,c0])
theorem jCP (hk:k<35) (w:World):Calls Tryz.prog 45 #[.string (jnK (.Param 0)),.string (jC k)] w fun e w'=>jnG w.heap.size e w' (jm3 (.Param 0) k)/\Below w.heap.size w w':=by
 exact rj (xs:=[]) (rb (.Param0_0) w) rfl (by simp[jm3,jm6,jm5,jnc])
theorem jCO (hk:k<35) (w:World):Calls Tryz.prog 45 #[.string (jnK (.Param 1)),.string (jC k)] w fun e w'=>jnG w.heap.size e w' (jm3 (.Param 1) k)/\Below w.heap.size w w':=by
 by_cases c0:k=2
 .exact rj (xs:=[.tm 2,.nt (.Param 0)]) (rb (.Param1_0 (by rw[nk2 hk];simp;exact c0)) w) rfl (by simp[jm3,jm6,jm5,jnc,c0])
 .exact rj (xs:=[]) (rb (.Param1_1 (by rw[nk2 hk];simp;exact c0)) w) rfl (by simp[jm3,jm6,jm5,jnc,c0])
theorem jCN (hk:k<35) (w:World):Calls Tryz.prog 45 #[.string (jnK (.Param 2)),.string (jC k)] w fun e w'=>jnG w.heap.size e w' (jm3 (.Param 2) k)/\Below w.heap.size w w':=by
 by_cases c0:k=2
 .exact rj (xs:=[.tm 2,.nt (.Param 1)]) (rb (.Param2_0 (by rw[nk2 hk];simp;exact c0)) w) rfl (by simp[jm3,jm6,jm5,jnc,c0])
 .exact rj (xs:=[]) (rb (.Param2_1 (by rw[nk2 hk];simp;exact c0)) w) rfl (by simp[jm3,jm6,jm5,jnc,c0])
theorem jCM (hk:k<35) (w:World):Calls Tryz.prog 45 #[.string (jnK (.Param 3)),.string (jC k)] w fun e w'=>jnG w.heap.size e w' (jm3 (.Param 3) k)/\Below w.heap.size w w':=by
 by_cases c0:k=2
 .exact rj (xs:=[.tm 2,.nt (.Param 2)]) (rb (.Param3_0 (by rw[nk2 hk];simp;exact c0)) w) rfl (by simp[jm3,jm6,jm5,jnc,c0])
 .exact rj (xs:=[]) (rb (.Param3_1 (by rw[nk2 hk];simp;exact c0)) w) rfl (by simp[jm3,jm6,jm5,jnc,c0])
theorem jCV (hk:k<35) (w:World):Calls Tryz.prog 45 #[.string (jnK (.Name 0)),.string (jC k)] w fun e w'=>jnG w.heap.size e w' (jm3 (.Name 0) k)/\Below w.heap.size w w':=by
 exact rj (xs:=[]) (rb (.Name0_0) w) rfl (by simp[jm3,jm6,jm5,jnc])
theorem jCU (hk:k<35) (w:World):Calls Tryz.prog 45 #[.string (jnK (.Name 1)),.string (jC k)] w fun e w'=>jnG w.heap.size e w' (jm3 (.Name 1) k)/\Below w.heap.size w w':=by
 by_cases c0:k=25
 .exact rj (xs:=[.tm 25,.tm 2,.nt (.Name 0)]) (rb (.Name1_0 (by rw[joR hk];simp;exact c0)) w) rfl (by simp[jm3,jm6,jm5,jnc,c0])
 .exact rj (xs:=[]) (rb (.Name1_1 (by rw[joR hk];simp;exact c0)) w) rfl (by simp[jm3,jm6,jm5,jnc,c0])
theorem jCT (hk:k<35) (w:World):Calls Tryz.prog 45 #[.string (jnK (.Name 2)),.string (jC k)] w fun e w'=>jnG w.heap.size e w' (jm3 (.Name 2) k)/\Below w.heap.size w w':=by
 by_cases c0:k=25
 .exact rj (xs:=[.tm 25,.tm 2,.nt (.Name 1)]) (rb (.Name2_0 (by rw[joR hk];simp;exact c0)) w) rfl (by simp[jm3,jm6,jm5,jnc,c0])
 .exact rj (xs:=[]) (rb (.Name2_1 (by rw[joR hk];simp;exact c0)) w) rfl (by simp[jm3,jm6,jm5,jnc,c0])
theorem jCS (hk:k<35) (w:World):Calls Tryz.prog 45 #[.string (jnK (.Name 3)),.string (jC k)] w fun e w'=>jnG w.heap.size e w' (jm3 (.Name 3) k)/\Below w.heap.size w w':=by
 by_cases c0:k=25
 .exact rj (xs:=[.tm 25,.tm 2,.nt (.Name 2)]) (rb (.Name3_0 (by rw[joR hk];simp;exact c0)) w) rfl (by simp[jm3,jm6,jm5,jnc,c0])
 .exact rj (xs:=[]) (rb (.Name3_1 (by rw[joR hk];simp;exact c0)) w) rfl (by simp[jm3,jm6,jm5,jnc,c0])
theorem jCR (hk:k<35) (w:World):Calls Tryz.prog 45 #[.string (jnK (.Name 4)),.string (jC k)] w fun e w'=>jnG w.heap.size e w' (jm3 (.Name 4) k)/\Below w.heap.size w w':=by
 by_cases c0:k=25
 .exact rj (xs:=[.tm 25,.tm 2,.nt (.Name 3)]) (rb (.Name4_0 (by rw[joR hk];simp;exact c0)) w) rfl (by simp[jm3,jm6,jm5,jnc,c0])
 .exact rj (xs:=[]) (rb (.Name4_1 (by rw[joR hk];simp;exact c0)) w) rfl (by simp[jm3,jm6,jm5,jnc,c0])
theorem jDf (hk:k<35) (w:World):Calls Tryz.prog 45 #[.string (jnK (.Argument 0)),.string (jC k)] w fun e w'=>jnG w.heap.size e w' (jm3 (.Argument 0) k)/\Below w.heap.size w w':=by
 exact rj (xs:=[]) (rb (.Argument0_0) w) rfl (by simp[jm3,jm6,jm5,jnc])
theorem jDe (hk:k<35) (w:World):Calls Tryz.prog 45 #[.string (jnK (.Argument 1)),.string (jC k)] w fun e w'=>jnG w.heap.size e w' (jm3 (.Argument 1) k)/\Below w.heap.size w w':=by
 by_cases c0:jot k=true
 .exact rj (xs:=[.nt (.Operand),.nt (.Argument 0)]) (rc (.Argument1_0 (by rw[jps hk];exact c0)) w) rfl (by simp[jm3,jm6,jm5,jnc,c0])
 .by_cases c1:k=23
  .exact rj (xs:=[.nt (.Operand),.nt (.Argument 0)]) (rc (.Argument1_1 (by rw[jps hk];simpa using c0) (by rw[joq hk];simp;exact c1)) w) rfl (by simp[jm3,jm6,jm5,jnc,c0,c1])
  .exact rj (xs:=[]) (rc (.Argument1_2 (by rw[jps hk];simpa using c0) (by rw[joq hk];simp;exact c1)) w) rfl (by simp[jm3,jm6,jm5,jnc,c0,c1])
theorem jDd (hk:k<35) (w:World):Calls Tryz.prog 45 #[.string (jnK (.Argument 2)),.string (jC k)] w fun e w'=>jnG w.heap.size e w' (jm3 (.Argument 2) k)/\Below w.heap.size w w':=by
 by_cases c0:jot k=true
 .exact rj (xs:=[.nt (.Operand),.nt (.Argument 1)]) (rc (.Argument2_0 (by rw[jps hk];exact c0)) w) rfl (by simp[jm3,jm6,jm5,jnc,c0])
 .by_cases c1:k=23
  .exact rj (xs:=[.nt (.Operand),.nt (.Argument 1)]) (rc (.Argument2_1 (by rw[jps hk];simpa using c0) (by rw[joq hk];simp;exact c1)) w) rfl (by simp[jm3,jm6,jm5,jnc,c0,c1])
  .exact rj (xs:=[]) (rc (.Argument2_2 (by rw[jps hk];simpa using c0) (by rw[joq hk];simp;exact c1)) w) rfl (by simp[jm3,jm6,jm5,jnc,c0,c1])
theorem jDc (hk:k<35) (w:World):Calls Tryz.prog 45 #[.string (jnK (.Argument 3)),.string (jC k)] w fun e w'=>jnG w.heap.size e w' (jm3 (.Argument 3) k)/\Below w.heap.size w w':=by
 by_cases c0:jot k=true
 .exact rj (xs:=[.nt (.Operand),.nt (.Argument 2)]) (rc (.Argument3_0 (by rw[jps hk];exact c0)) w) rfl (by simp[jm3,jm6,jm5,jnc,c0])
 .by_cases c1:k=23
  .exact rj (xs:=[.nt (.Operand),.nt (.Argument 2)]) (rc (.Argument3_1 (by rw[jps hk];simpa using c0) (by rw[joq hk];simp;exact c1)) w) rfl (by simp[jm3,jm6,jm5,jnc,c0,c1])
  .exact rj (xs:=[]) (rc (.Argument3_2 (by rw[jps hk];simpa using c0) (by rw[joq hk];simp;exact c1)) w) rfl (by simp[jm3,jm6,jm5,jnc,c0,c1])
theorem jDb (hk:k<35) (w:World):Calls Tryz.prog 45 #[.string (jnK (.Argument 4)),.string (jC k)] w fun e w'=>jnG w.heap.size e w' (jm3 (.Argument 4) k)/\Below w.heap.size w w':=by
 by_cases c0:jot k=true
 .exact rj (xs:=[.nt (.Operand),.nt (.Argument 3)]) (rc (.Argument4_0 (by rw[jps hk];exact c0)) w) rfl (by simp[jm3,jm6,jm5,jnc,c0])
 .by_cases c1:k=23
  .exact rj (xs:=[.nt (.Operand),.nt (.Argument 3)]) (rc (.Argument4_1 (by rw[jps hk];simpa using c0) (by rw[joq hk];simp;exact c1)) w) rfl (by simp[jm3,jm6,jm5,jnc,c0,c1])
  .exact rj (xs:=[]) (rc (.Argument4_2 (by rw[jps hk];simpa using c0) (by rw[joq hk];simp;exact c1)) w) rfl (by simp[jm3,jm6,jm5,jnc,c0,c1])
theorem jC2 (hk:k<35) (w:World):Calls Tryz.prog 45 #[.string (jnK (.Item 0)),.string (jC k)] w fun e w'=>jnG w.heap.size e w' (jm3 (.Item 0) k)/\Below w.heap.size w w':=by
 exact rj (xs:=[]) (rc (.Item0_0) w) rfl (by simp[jm3,jm6,jm5,jnc])
theorem jC1 (hk:k<35) (w:World):Calls Tryz.prog 45 #[.string (jnK (.Item 1)),.string (jC k)] w fun e w'=>jnG w.heap.size e w' (jm3 (.Item 1) k)/\Below w.heap.size w w':=by
 by_cases c0:k=25
 .exact rj (xs:=[.tm 25,.nt (.Expr),.nt (.Item 0)]) (rc (.Item1_0 (by rw[joR hk];simp;exact c0)) w) rfl (by simp[jm3,jm6,jm5,jnc,c0])
 .exact rj (xs:=[]) (rc (.Item1_1 (by rw[joR hk];simp;exact c0)) w) rfl (by simp[jm3,jm6,jm5,jnc,c0])
theorem jC0 (hk:k<35) (w:World):Calls Tryz.prog 45 #[.string (jnK (.Item 2)),.string (jC k)] w fun e w'=>jnG w.heap.size e w' (jm3 (.Item 2) k)/\Below w.heap.size w w':=by
 by_cases c0:k=25
 .exact rj (xs:=[.tm 25,.nt (.Expr),.nt (.Item 1)]) (rc (.Item2_0 (by rw[joR hk];simp;exact c0)) w) rfl (by simp[jm3,jm6,jm5,jnc,c0])
 .exact rj (xs:=[]) (rc (.Item2_1 (by rw[joR hk];simp;exact c0)) w) rfl (by simp[jm3,jm6,jm5,jnc,c0])
theorem jCZ (hk:k<35) (w:World):Calls Tryz.prog 45 #[.string (jnK (.Item 3)),.string (jC k)] w fun e w'=>jnG w.heap.size e w' (jm3 (.Item 3) k)/\Below w.heap.size w w':=by
 by_cases c0:k=25
 .exact rj (xs:=[.tm 25,.nt (.Expr),.nt (.Item 2)]) (rc (.Item3_0 (by rw[joR hk];simp;exact c0)) w) rfl (by simp[jm3,jm6,jm5,jnc,c0])
 .exact rj (xs:=[]) (rc (.Item3_1 (by rw[joR hk];simp;exact c0)) w) rfl (by simp[jm3,jm6,jm5,jnc,c0])
theorem jCY (hk:k<35) (w:World):Calls Tryz.prog 45 #[.string (jnK (.Item 4)),.string (jC k)] w fun e w'=>jnG w.heap.size e w' (jm3 (.Item 4) k)/\Below w.heap.size w w':=by
 by_cases c0:k=25
 .exact rj (xs:=[.tm 25,.nt (.Expr),.nt (.Item 3)]) (rc (.Item4_0 (by rw[joR hk];simp;exact c0)) w) rfl (by simp[jm3,jm6,jm5,jnc,c0])
 .exact rj (xs:=[]) (rc (.Item4_1 (by rw[joR hk];simp;exact c0)) w) rfl (by simp[jm3,jm6,jm5,jnc,c0])
theorem jCX (hk:k<35) (w:World):Calls Tryz.prog 45 #[.string (jnK (.Item 5)),.string (jC k)] w fun e w'=>jnG w.heap.size e w' (jm3 (.Item 5) k)/\Below w.heap.size w w':=by
 by_cases c0:k=25
 .exact rj (xs:=[.tm 25,.nt (.Expr),.nt (.Item 4)]) (rc (.Item5_0 (by rw[joR hk];simp;exact c0)) w) rfl (by simp[jm3,jm6,jm5,jnc,c0])
 .exact rj (xs:=[]) (rc (.Item5_1 (by rw[joR hk];simp;exact c0)) w) rfl (by simp[jm3,jm6,jm5,jnc,c0])
theorem ju4 (x:X) (A:okX x=true) (hk:k<35) (w:World):Calls Tryz.prog 45 #[.string (jnK x),.string (jC k)] w fun e w'=>jnG w.heap.size e w' (jm3 x k)/\Below w.heap.size w w':=by
 cases x with
 |Expr=>exact jC5 hk w
 |Let=>exact jCW hk w
 |Rest=>exact jCK hk w
 |Comparison=>exact jC6 hk w
 |Compared=>exact jC7 hk w
 |Sum=>exact jCI hk w
 |Terms=>exact jCH hk w
 |Product=>exact jCL hk w
 |Factors=>exact jC4 hk w
 |Sign=>exact jCJ hk w
 |Call=>exact jC8 hk w
 |Operand=>exact jCQ hk w
 |Index=>exact jC3 hk w
 |Atom=>exact jDa hk w
 |Bracket=>exact jC9 hk w
 |Param m=>
  match m,A with
  |0,_=>exact jCP hk w
  |1,_=>exact jCO hk w
  |2,_=>exact jCN hk w
  |3,_=>exact jCM hk w
  |m+4,h=>simp[okX]at h
 |Name m=>
  match m,A with
  |0,_=>exact jCV hk w
  |1,_=>exact jCU hk w
  |2,_=>exact jCT hk w
  |3,_=>exact jCS hk w
  |4,_=>exact jCR hk w
  |m+5,h=>simp[okX]at h
 |Argument m=>
  match m,A with
  |0,_=>exact jDf hk w
  |1,_=>exact jDe hk w
  |2,_=>exact jDd hk w
  |3,_=>exact jDc hk w
  |4,_=>exact jDb hk w
  |m+5,h=>simp[okX]at h
 |Item m=>
  match m,A with
  |0,_=>exact jC2 hk w
  |1,_=>exact jC1 hk w
  |2,_=>exact jC0 hk w
  |3,_=>exact jCZ hk w
  |4,_=>exact jCY hk w
  |5,_=>exact jCX hk w
  |m+6,h=>simp[okX]at h
theorem jCB {xs:List Sy}(C:okX x=true) (hk:k<35) (A:jm3 x k=some xs):∀s ∈ xs,jpy s=true:=by
 unfold jm3 at A
 split at A <;> (try split at A) <;> (try split at A) <;> (try split at A) <;> (try split at A) <;> first
  |(simp at A;done)
  |(injection A with A;subst A;simp[jpy,okX];done)
  |(injection A with A;subst A;simp[jpy,okX,hk];done)
  |(injection A with A;subst A;simp[okX]at C;simp[jpy,okX];omega)
theorem jCC {xs:List Sy}(A:jm3 x k=some xs):xs.length<=10:=by
 unfold jm3 at A
 split at A <;> (try split at A) <;> (try split at A) <;> (try split at A) <;> (try split at A) <;> first
  |(simp at A;done)
  |(injection A with A;subst A;simp;done)
def jtD:Sy->Bool
 | .tm _=>false
 | .nt _=>true
def jsI (x:ByteArray):Bool:=if h:0<x.size then decide (65<=x[0].toNat) && decide (x[0].toNat<=90) else false
theorem jBV (s:Sy) (hs:jpy s=true):0<(jpa s).size/\(jpa s).size<=1000/\jsI (jpa s)=jtD s:=by
 cases s with
 |tm k=>
  have:∀k:Fin 35,0<(jC k.val).size/\(jC k.val).size<=1000/\jsI (jC k.val)=false:=by decide
  simp only[jpy,Yd]at hs;exact this ⟨k,hs⟩
 |nt x=>
  cases x with
  |Param m=>match m,hs with
   |0,_|1,_|2,_|3,_=>decide
   |m+4,h=>simp[jpy,okX]at h
  |Name m=>match m,hs with
   |0,_|1,_|2,_|3,_|4,_=>decide
   |m+5,h=>simp[jpy,okX]at h
  |Argument m=>match m,hs with
   |0,_|1,_|2,_|3,_|4,_=>decide
   |m+5,h=>simp[jpy,okX]at h
  |Item m=>match m,hs with
   |0,_|1,_|2,_|3,_|4,_|5,_=>decide
   |m+6,h=>simp[jpy,okX]at h
  |_=>decide
theorem jqQ (x:ByteArray) (A:0<x.size) (w:World) :
 Calls Tryz.prog 44 #[.string x] w fun e w'=>e= .returned (.bool (jsI x))/\w'=w:=by
 refine(jD2 x A w).mono ?_;rintro e w' ⟨rfl,rfl⟩;exact⟨jpE (by rw[jsI,dif_pos A]),rfl⟩
theorem jFf:∃m:(Nat->Prop)->Nat,∀(p:Nat->Prop) n,p n->p (m p)/\m p<=n:=by
 have:∀p:Nat->Prop,∃k,∀n,p n->p k/\k<=n:=by
  intro p
  by_cases h:∃n,p n
  .obtain⟨n,A⟩:=h
   have E:∀n,p n->∃k,p k/\∀m,p m->k<=m:=by
    intro n
    induction n using Nat.strongRecOn with
    |ind n ih=>
     intro A
     by_cases h:∃m,m<n/\p m
     .obtain⟨m,hm,hpm⟩:=h
      exact ih m hm hpm
     .refine⟨n,A,fun m hpm=>?_⟩
      rcases Kg m n with C|C
      .exact absurd ⟨m,C,hpm⟩ h
      .exact C
   obtain⟨k,F,H⟩:=E n A;exact⟨k,fun m hm=>⟨F,H m hm⟩⟩
  .exact⟨0,fun n A=>absurd ⟨n,A⟩ h⟩
 exact⟨fun p=>Classical.choose (this p),fun p n A=>Classical.choose_spec (this p) n A⟩
def RW (w:World) (b off:Nat) (l:List Tok):Prop:=∀i (h:i<l.length),w.cell? ⟨b,off+i*3,none⟩=some (.string (jpz l[i].k l[i].t))/\w.cell? ⟨b,off+i*3+1,none⟩=some (.string l[i].t)/\w.cell? ⟨b,off+i*3+2,none⟩=some (.int .i64 l[i].p)
theorem RW.below {b off:Nat}{l:List Tok}(h:RW w b off l) (C:Below B w w') (A:b<B):RW w' b off l:=fun i hi=>by
 have:=h i hi;exact⟨(C.cell (p:=⟨b,_,none⟩) A).trans this.1,(C.cell (p:=⟨b,_,none⟩) A).trans this.2.1,(C.cell (p:=⟨b,_,none⟩) A).trans this.2.2⟩
def jnl (t:Tok):Prop:=jpz t.k t.t=jC t.k/\t.k<35
def strs (S:List Sy):List Value:=(S.map jpa).map Value.string
theorem jxH (a b:List Sy):strs (a ++b)=strs a ++strs b:=by simp[strs]
theorem jBY (a:List Sy):(strs a).length=a.length:=by simp[strs]
theorem Tryz.info9:(Tryz.prog.info? 9).map (fun i=>(i.zero,i.size,i.bytes))=some (some (.string ⟨#[]⟩),1,16):=by kernel_rfl
def AR (L:List Tok) (N B:Nat) (w:World) (R:Option (Nat × Nat)) (n:Nat) (t o j:Value) (wr:World):Prop:=
 ∃S i ob,MR N n S (L.drop i) ob R/\(∀s ∈ S,jpy s=true)/\Bd 200000000 S (L.drop i)/\i<=L.length/\ob<=N/\ndS S<=ob/\o= .int .i64 (ob:Nat)/\j= .int .i64 (i:Nat)/\wr.ownsRow B 9 1 t S.length (strs S.reverse)/\Below B w wr
variable {wr:World}{g cap:Nat}
theorem jBF {s:Sy}{S:List Sy}(h:wr.ownsRow B 9 1 (.slice (some ⟨g,0,none⟩) (S.length+1) cap) (S.length+1) (strs (s ::S).reverse)):wr.cell? ⟨g,S.length,none⟩=some (.string (jpa s)):=by
 rw[h.cellAt S.length (by omega)];simp[strs]
theorem jDP {s:Sy}{S:List Sy}(h:wr.ownsRow B 9 1 (.slice (some ⟨g,0,none⟩) (S.length+1) cap) (S.length+1) (strs (s ::S).reverse)):wr.ownsRow B 9 1 (.slice (some ⟨g,0,none⟩) S.length cap) S.length (strs S.reverse):=by
 rw[List.reverse_cons,jxH]at h;exact ownsRow_pop (by rw[jBY];simp) h
variable {e:TypeId}{xs:List Value}
theorem jvq (h:wr.ownsRow B e 1 v (n+1) xs):∃g cap,v= .slice (some ⟨g,0,none⟩) (n+1) cap/\B<=g/\g<wr.heap.size/\n+1<=cap/\cap<=maxLen:=by
 rcases h.2 with⟨_,K⟩|⟨g,cap,I,E,H,A,C,F,_⟩
 .omega
 .refine⟨g,cap,E,H,?_,C,F⟩
  rcases Kg g wr.heap.size with h|h
  .exact h
  .rw[Array.getElem?_eq_none h]at A;simp at A
theorem jD5 (h:wr.ownsRow B e 1 v 0 xs):∃a cap,v= .slice a 0 cap:=by
 rcases h.2 with⟨C,_⟩|⟨g,cap,E,A,_⟩
 .exact⟨_,_,C⟩
 .exact⟨_,_,A⟩
set_option maxRecDepth 100000 in
theorem jJh (L:List Tok) (b off cap N n0:Nat) (R:Option (Nat × Nat)) (w:World) (hL:L.length<=100000) (hN:N<=1000000) (hc:L.length<=cap) (hr:RW w b off L) (hb:b<w.heap.size) (v0:∀t ∈ L,jnl t)
 (hM:MR N n0 [.nt .Expr,.tm 0] L 0 R) :
 Calls Tryz.prog 22 #[.slice (some ⟨b,off,none⟩) L.length cap,.int .i64 N] w fun e w'=>e= .returned (.tuple #[.int .i64 ((R.map (·.1)).getD 0:Nat),.int .i64 ((R.map (·.2)).getD 0:Nat)])/\Below w.heap.size w w':=by
 obtain⟨mu,x0⟩:=jFf;obtain⟨i0,y8,y2,z3,y6⟩:=info_parts Tryz.info9;have HM:=jH hM;have HK:=jH v0;have HW:=jH hr;have HU:=jH x0;clear hM v0 hr x0
 go_enter Tryz.func22,Tryz.ntmps22
 go_wp2_with fail
 go_loopw [6,7,8] (fun t o j wr=>∃n,AR L N w.heap.size w R n t o j wr) (fun t o j wr=>mu (fun n=>AR L N w.heap.size w R n t o j wr))
 case atStart=>
  refine⟨n0,[.nt .Expr,.tm 0],0,0,by simpa using HM.o,by simp[jpy,okX],.inl (by simp[wtS,wtX];omega),Yi _,Yi _,Yi _,rfl,rfl,?_,jB.alloc jN _⟩;exact jmE w _ _ _ [⟨#[101,110,100]⟩,⟨#[69,120,112,114]⟩] rfl jN (by simp)
 case round=>
  obtain⟨n1,x3⟩:=hrel;have h1:=HU.o (fun n=>AR L N w.heap.size w R n u6 u7 u8 wr) n1 x3
  obtain⟨n,hn⟩:∃n,mu (fun n=>AR L N w.heap.size w R n u6 u7 u8 wr)=n:=⟨_,rfl⟩
  rw[hn]at h1;have hA:=h1.1;clear h1 x3 n1;obtain⟨S,i,C,W,hS,hB,hi,x4,v6,rfl,rfl,q4,h2⟩:=hA;have q6:=jH v6;clear v6;have HN:=jH hn;clear hn;have k5:=h2.size
  obtain⟨l,hl⟩:∃l,L.drop i=l:=⟨_,rfl⟩
  rw[hl]at W hB;have HD:=jH hl;clear hl
  cases S with
  |nil=>
   cases W
   rcases q4.2 with⟨rfl,_⟩|⟨g,z4,H8,rfl,_⟩
   all_goals
    clear q4
    go_wp2_with fail
    go_ret2
    exact⟨rfl,h2⟩
  |cons s S=>
   have z6:=hB.len;have h4:=q4;rw[Yk]at h4;obtain⟨g,cp,rfl,K2,K1,H0,z1⟩:=jvq h4;have r1:=jBF h4;have q5:=jDP h4;have v2:=hS s (by simp);obtain⟨K,z5,r6⟩:=jBV s v2;have E:=jH r6;clear q4 h4 r6;obtain⟨t0,l0,rfl⟩:∃t0 l0,l=t0 ::l0:=by cases W <;> exact⟨_,_,rfl⟩
   have r9:i<L.length:=by
    rcases Kg i L.length with h|h
    .exact h
    .have:=HD.o;rw[Ui h]at this;cases this
   have q8:L[i]=t0:=by
    have:=HD.o;rw[Ki r9]at this;injection this
   have Z:Hid (L.drop (i+1)=l0):=by
    have:=HD.o;rw[Ki r9]at this;injection this
   obtain⟨v7,k1⟩:=HK.o t0 (by rw[<-q8];simp);obtain⟨c1,c2,c3⟩:=(HW.o.below h2 hb) i r9;rw[q8]at c1 c2 c3;rw[v7]at c1;clear q8 v7;simp only[maxLen]at z1;unfold Bd at hB;have v8:Hid (Bd 200000000 (s ::S) (t0 ::l0)):=hB;clear hB
   cases s with
   |nt x=>
    simp only[jtD]at E;have r7:okX x=true:=v2
    cases hrx :jm3 x t0.k with
    |none=>
     have HR:Hid (R=some (4,t0.p)):=by
      cases W with
      |nt hx _=>rw[hrx]at hx;cases hx
      |ntBad _=>rfl
     have HX:=jH hrx;clear W hrx
     go_wp2_with (first|(go_at_call 44;refine(jqQ _ K _).mono ?_;rw[E.o];rintro e w' ⟨rfl,H⟩;subst H)|(go_at_call 45;refine(ju4 x r7 k1 _).mono ?_;rw[HX.o];rintro e w2 ⟨⟨v,rfl,_⟩,Y⟩;obtain⟨H1,z9⟩:=jt7 Y;have r5:=Y.size;simp only[Option.isSome]))
     go_region
     all_goals (try go_wp2)
     all_goals go_ret2
     all_goals exact⟨by rw[HR.o];rfl,((h2.alloc k5 _).trans (Y.mono (by simp;omega))).drew⟩
    |some xs=>
     have I:∃O,n=O+1/\MR N O (xs ++S) (t0 ::l0) C R:=by
      cases W with
      |nt hx h=>rw[hrx]at hx;injection hx with hx;subst hx;exact⟨_,rfl,h⟩
      |ntBad hx=>rw[hrx]at hx;cases hx
     obtain⟨O,rfl,I⟩:=I;have h3:=jH I;have HX:=jH hrx;have h6:Hid (Bd 200000000 (xs ++S) (t0 ::l0)):=v8.o.nt hrx;have x2:Hid (∀s ∈ xs,jpy s=true):=jCB r7 k1 hrx;have y3:=jCC hrx;have v4:=h6.o.len;rw[Yg]at v4;clear W I hrx
     cases xs with
     |nil=>
      go_wp2_with (first|(go_at_call 44;refine(jqQ _ K _).mono ?_;rw[E.o];rintro e w' ⟨rfl,H⟩;subst H)|(go_at_call 45;refine(ju4 x r7 k1 _).mono ?_;rw[HX.o];rintro e w2 ⟨⟨v,rfl,hv⟩,Y⟩;have hv:=hv [] rfl;obtain⟨va,x8,rfl⟩:=jD5 hv;have r5:=Y.size;simp only[Option.isSome]))
      have y7:wr.heap.size+1<=w2.heap.size:=by simpa using r5
      have h0:=(h2.alloc k5 (.cells #[.string (jC t0.k),.string t0.t,.int .i64 t0.p] 112)).trans (Y.mono (by simp;omega));have U:=own_below (q5.alloc (.cells #[.string (jC t0.k),.string t0.t,.int .i64 t0.p] 112)) Y;refine wp_loop_rounds 1 ?_;rw[rounds_succ]
      go_wp2_with fail
      have A:AR L N w.heap.size w R O (.slice (some ⟨g,0,none⟩) S.length cp) (.int .i64 C) (.int .i64 i) w2:=
       ⟨S,i,C,by rw[HD.o];exact h3.o,fun s hs=>hS s (by simp[hs]),by rw[HD.o];exact h6.o,hi,x4,Ym (jyD HX.o) q6.o,rfl,rfl,U,h0⟩
      go_roundw
      case rel=>exact⟨O,A⟩
      case measure=>
       rw[HN.o];have:=(HU.o (fun n=>AR L N w.heap.size w R n (.slice (some ⟨g,0,none⟩) S.length cp) (.int .i64 C) (.int .i64 i) w2) O A).2;exact Nat.lt_succ_of_le this
     |cons y ys=>
      obtain⟨X,hX⟩:∃X,X=y ::ys:=⟨_,rfl⟩
      have y9:X.length=ys.length+1:=by rw[hX];rfl
      rw[<-hX]at HX h3 h6 x2 y3 v4;have x6:=jH y9;clear hX
      go_wp2_with (first|(go_at_call 44;refine(jqQ _ K _).mono ?_;rw[E.o];rintro e w' ⟨rfl,H⟩;subst H)|(go_at_call 45;refine(ju4 x r7 k1 _).mono ?_;rw[HX.o];rintro e w2 ⟨⟨v,rfl,hv⟩,Y⟩;have hv:=hv X rfl;rw[x6.o]at hv;obtain⟨gx,x8,rfl,z0,H9,H7,K4⟩:=jvq hv;have r5:=Y.size;simp only[Option.isSome]))
      have y7:wr.heap.size+1<=w2.heap.size:=by simpa using r5
      have H3:wr.heap.size+1<=gx:=by simpa using z0
      have h0:=(h2.alloc k5 (.cells #[.string (jC t0.k),.string t0.t,.int .i64 t0.p] 112)).trans (Y.mono (by simp;omega));have U:=own_below (q5.alloc (.cells #[.string (jC t0.k),.string t0.t,.int .i64 t0.p] 112)) Y
      have z2:Hid (∀q (h:q<X.length),w2.cell? ⟨gx,q,none⟩=some (.string (jpa X[q]))):=by
       intro q h;rw[hv.cellAt q (by omega)];simp[h]
      clear hv q5 c1 c2 c3 r1
      go_loopw [6,14] (fun t k wr2=>∃q,q<=X.length/\k= .int .i64 ((q:Int)-1)/\wr2.ownsRow w.heap.size 9 1 t (S.length+(X.length-q)) (strs (S.reverse ++(X.drop q).reverse))/\Below w.heap.size w wr2/\w2.heap.size<=wr2.heap.size/\(∀q' (h:q'<X.length),wr2.cell? ⟨gx,q',none⟩=some (.string (jpa X[q'])))/\t.ownBlock≠some gx) (fun _ k _=>(intOf k+1).toNat)
      case atStart=>
       refine⟨X.length,jN,by rw[x6.o];go_num,?_,h0,jN,z2.o,?_⟩
       .simpa using U
       .simp[Value.ownBlock];omega
      case round=>
       have K0:Hid True:=trivial;obtain⟨q,hq,rfl,h7,k9,H6,r3,x1⟩:=hrel
       cases q with
       |zero=>
        have h8:wr.ownsRow w.heap.size 9 1 u6 (X ++S).length (strs (X ++S).reverse):=by
         have h:=h7;rw[List.drop_zero,<-List.reverse_append,Nat.sub_zero]at h;rw[Yg,Ks];exact h
        have A:AR L N w.heap.size w R O u6 (.int .i64 C) (.int .i64 i) wr:=
         ⟨X ++S,i,C,by rw[HD.o];exact h3.o,fun s hs=>by rcases Yq.1 hs with h|h;exact x2.o s h;exact hS s (by simp[h]),by rw[HD.o];exact h6.o,hi,x4,Ym (jyD HX.o) q6.o,rfl,rfl,h8,k9⟩
        have F:Hid _:=A;clear A h8 h7 r3
        go_wp2_with fail
        refine⟨⟨O,F.o⟩,?_⟩;rw[HN.o];exact Nat.lt_succ_of_le ((HU.o (fun n=>AR L N w.heap.size w R n u6 (.int .i64 C) (.int .i64 i) wr) O F.o).2)
       |succ q=>
        have H4:=r3 q (by omega);have y1:=jH r3;have v9:=jH x1
        have x9:Hid (strs (S.reverse ++(X.drop q).reverse)=strs (S.reverse ++(X.drop (q+1)).reverse) ++[.string (jpa X[q])]):=by
         show _=_;rw[Ki (show q<X.length by omega),List.reverse_cons,<-Yu,jxH _ [X[q]]];rfl
        clear r3 x1;rw[show((q+1:Nat):Int)-1=(q:Int) by omega]
        go_wp2_with (at_builtin;refine JO _ rfl (.tmp 55) (.tmp 60) 87 rfl w.heap.size 9 i0 _ 1 16 Tryz.underlying87 y8 y2 z3 y6 rfl (by decide) _ _ _ rfl (h7.alloc _) _ 1 1 [.string (jpa X[q])] rfl rfl (Ja _ _ _ _ rfl) ?_ ?_ ?_ ?_ ?_;(intro u hu;simp at hu;subst hu;rfl);(unfold maxLen;omega);omega;(have:=k9.size;simp;omega);intro v' w3 h8 r8 x7;have y0:=jmb k9 k9.size _ r8 (jh7 h7))
        have H2:wr.heap.size+1<=w3.heap.size:=by have:=r8.size;simpa using this
        go_roundw
        case rel=>
         refine⟨q,by omega,rfl,?_,y0,by omega,?_,?_⟩
         .rw[x9.out,show S.length+(X.length-q)=S.length+(X.length-(q+1))+1 by omega]
          exact h8
         .intro q' h
          refine World.grownBy.cell r8 ?_ (fun e=>v9.o e.symm);rw[World.cell?_alloc_past _ _ _ (by omega)];exact y1.o q' h
         .rcases x7 with h|h
          .rw[h];exact v9.o
          .rw[h];simp;omega
        case measure=>simp[intOf] <;> omega
   |tm k=>
    simp only[jtD]at E;have r4:k<35:=by simpa[jpy] using v2
    have hq:=jnQ t0.k k1 k r4;have k7:=joq r4;have k8:=jpO r4;have k2:=jrP r4
    by_cases q7:t0.k=k
    .subst q7
     have y5:((jC t0.k).toList == (jC t0.k).toList)=true:=by simp
     have v3:jpa (.tm t0.k)=jC t0.k:=rfl;rw[v3]at r1 K E;have h0:=h2.alloc k5 (.cells #[.string (jC t0.k),.string t0.t,.int .i64 t0.p] 112);have U:=q5.alloc (.cells #[.string (jC t0.k),.string t0.t,.int .i64 t0.p] 112);have h6:Hid (Bd 200000000 S l0):=v8.o.tm;clear hq
     by_cases k4:t0.k=23\/t0.k=18
     .have hor:((jC t0.k).toList == [40])=true\/(((jC t0.k).toList == [40])=false/\((jC t0.k).toList == [46,40])=true):=by
       rw[k7,k8];simp;omega
      have K5:((jC t0.k).toList == [41])=false:=by rw[k2];simp;omega
      clear k7 k8 k2
      by_cases v5:C<N
      .have I:=jEI W rfl k4 v5
       obtain⟨O,rfl,I⟩:=I;have h3:=jH I;have h9:ndS S<=C+1:=by have h:=q6.o;simp only[ndS]at h;rw[if_neg (by omega),if_pos k4]at h;omega
       clear W I
       have A:AR L N w.heap.size w R O (.slice (some ⟨g,0,none⟩) S.length cp) (.int .i64 ((C+1:Nat):Int)) (.int .i64 ((i+1:Nat):Int)) (wr.alloc (.cells #[.string (jC t0.k),.string t0.t,.int .i64 t0.p] 112)):=
        ⟨S,i+1,C+1,by rw[Z.out];exact h3.o,fun s hs=>hS s (by simp[hs]),by rw[Z.out];exact h6.o,by omega,by omega,h9,rfl,rfl,U,h0⟩
       have F:Hid _:=A;clear A
       rcases hor with r2|⟨r2,x5⟩
       all_goals
        go_wp2_with (first|(go_at_call 44;refine(jqQ _ K _).mono ?_;rw[E.o];rintro e w' ⟨rfl,H⟩;subst H))
        go_roundw
        case rel=>exact⟨O,F.o⟩
        case measure=>
         rw[HN.o];have:=(HU.o (fun n=>AR L N w.heap.size w R n (.slice (some ⟨g,0,none⟩) S.length cp) (.int .i64 ((C+1:Nat):Int)) (.int .i64 ((i+1:Nat):Int)) (wr.alloc (.cells #[.string (jC t0.k),.string t0.t,.int .i64 t0.p] 112))) O F.o).2;exact Nat.lt_succ_of_le this
      .have HR:Hid (R=some (5,t0.p)):=jEJ W rfl k4 v5
       have v1:(C:Int)=N:=by omega
       have H5:=jH v1;have z8:((C:Int) == (N:Int))=true:=by simp;omega
       clear W v1
       rcases hor with r2|⟨r2,x5⟩
       all_goals
        go_wp2_with (first|(go_at_call 44;refine(jqQ _ K _).mono ?_;rw[E.o];rintro e w' ⟨rfl,H⟩;subst H))
        go_region
        all_goals (try go_wp2)
        all_goals go_ret2
        all_goals exact⟨by rw[HR.o];rfl,(h2.alloc k5 _).drew⟩
     .have r2:((jC t0.k).toList == [40])=false:=by rw[k7];simp;omega
      have x5:((jC t0.k).toList == [46,40])=false:=by rw[k8];simp;omega
      by_cases h5:t0.k=24
      .obtain⟨O,rfl,I⟩:=jEK W rfl h5
       have h3:=jH I;have y4:((jC t0.k).toList == [41])=true:=by rw[k2];simp;omega
       have q9:=q6.o;simp only[ndS]at q9;rw[if_pos h5]at q9;have z7:1<=C:=by omega
       have h9:ndS S<=C-1:=by omega
       clear q9;clear W I k7 k8 k2 h5 k4
       have A:AR L N w.heap.size w R O (.slice (some ⟨g,0,none⟩) S.length cp) (.int .i64 ((C:Int)-1)) (.int .i64 ((i+1:Nat):Int)) (wr.alloc (.cells #[.string (jC t0.k),.string t0.t,.int .i64 t0.p] 112)):=
        ⟨S,i+1,C-1,by rw[Z.out];exact h3.o,fun s hs=>hS s (by simp[hs]),by rw[Z.out];exact h6.o,by omega,by omega,h9,by rw[show((C-1:Nat):Int)=(C:Int)-1 by omega],rfl,U,h0⟩
       have F:Hid _:=A;clear A
       go_wp2_with (first|(go_at_call 44;refine(jqQ _ K _).mono ?_;rw[E.o];rintro e w' ⟨rfl,H⟩;subst H))
       go_roundw
       case rel=>exact⟨O,F.o⟩
       case measure=>
        rw[HN.o];have:=(HU.o (fun n=>AR L N w.heap.size w R n (.slice (some ⟨g,0,none⟩) S.length cp) (.int .i64 ((C:Int)-1)) (.int .i64 ((i+1:Nat):Int)) (wr.alloc (.cells #[.string (jC t0.k),.string t0.t,.int .i64 t0.p] 112))) O F.o).2;exact Nat.lt_succ_of_le this
      .obtain⟨O,rfl,I⟩:=jEH W rfl k4 h5
       have h3:=jH I;have y4:((jC t0.k).toList == [41])=false:=by rw[k2];simp;omega
       have h9:ndS S<=C:=by have h:=q6.o;simp only[ndS]at h;rw[if_neg h5,if_neg k4]at h;exact h
       clear W I k7 k8 k2 h5 k4
       have A:AR L N w.heap.size w R O (.slice (some ⟨g,0,none⟩) S.length cp) (.int .i64 ((C:Nat):Int)) (.int .i64 ((i+1:Nat):Int)) (wr.alloc (.cells #[.string (jC t0.k),.string t0.t,.int .i64 t0.p] 112)):=
        ⟨S,i+1,C,by rw[Z.out];exact h3.o,fun s hs=>hS s (by simp[hs]),by rw[Z.out];exact h6.o,by omega,by omega,h9,rfl,rfl,U,h0⟩
       have F:Hid _:=A;clear A
       go_wp2_with (first|(go_at_call 44;refine(jqQ _ K _).mono ?_;rw[E.o];rintro e w' ⟨rfl,H⟩;subst H))
       go_roundw
       case rel=>exact⟨O,F.o⟩
       case measure=>
        rw[HN.o];have:=(HU.o (fun n=>AR L N w.heap.size w R n (.slice (some ⟨g,0,none⟩) S.length cp) (.int .i64 ((C:Nat):Int)) (.int .i64 ((i+1:Nat):Int)) (wr.alloc (.cells #[.string (jC t0.k),.string t0.t,.int .i64 t0.p] 112))) O F.o).2;exact Nat.lt_succ_of_le this
    .have HR:Hid (R=some (4,t0.p)):=by
      cases W with
      |tm h _ _ _ _=>exact absurd h q7
      |tmBad _=>rfl
      |op h _ _ _=>exact absurd h q7
      |opNest h _ _=>exact absurd h q7
      |cl h _=>exact absurd h q7
     have y5:((jC k).toList == (jC t0.k).toList)=false:=by rw[hq];simp;omega
     clear W hq k7 k8 k2;have v3:jpa (.tm k)=jC k:=rfl;rw[v3]at r1 K E
     go_wp2_with (first|(go_at_call 44;refine(jqQ _ K _).mono ?_;rw[E.o];rintro e w' ⟨rfl,H⟩;subst H))
     go_region
     all_goals (try go_wp2)
     all_goals go_ret2
     all_goals exact⟨by rw[HR.o];rfl,(h2.alloc k5 _).drew⟩
def tks (l:List Tok):List Tk:=l.map Tok.tk
theorem jBK (l:List Tok) (i:Nat) (h:i<l.length):tks (l.drop i)=l[i].tk ::tks (l.drop (i+1)):=by
 rw[Ki h];rfl
theorem jtT (hk:k<35) (w:World) :
 Calls Tryz.prog 77 #[.string (jC k)] w fun e w'=>e= .returned (.bool (Sl.ended k))/\w'=w:=by
 have C:=jrP hk;have E:=jps hk
 go_enter Tryz.func77,Tryz.ntmps77
 go_wp2_with (go_at_call 75;refine(jt9 _ _).mono ?_;rintro e w' ⟨rfl,A⟩;subst A)
 all_goals
  go_ret;refine⟨jpE ?_,rfl⟩;unfold Sl.ended;rw[Bool.eq_iff_iff]
  simp_all
set_option maxRecDepth 100000 in
theorem jET (L:List Tok) (b off cap i0 op cl:Nat) (H cb:ByteArray) (w:World) (hL:L.length<=100000) (hc:L.length<=cap) (hr:RW w b off L) (U:∀t ∈ L,jnl t) (Z:i0<=L.length)
 (O:∀k,k<35->((jC k).toList == H.toList)=decide (k=op)) (W:∀k,k<35->((jC k).toList == cb.toList)=decide (k=cl)) (h5:op≠cl) :
 Calls Tryz.prog 47 #[.slice (some ⟨b,off,none⟩) L.length cap,.int .i64 i0,.string H,.string cb] w fun e w'=>e= .returned (.int .i64 ((i0+mt op cl 0 (tks (L.drop i0)):Nat):Int))/\w'=w:=by
 have HR:=jH hr;have HK:=jH U;have HO:=jH O;have HC:=jH W;clear hr U O W
 obtain⟨z,hz⟩:∃z,z=i0+mt op cl 0 (tks (L.drop i0)):=⟨_,rfl⟩
 rw[<-hz];have HZ:=jH hz;clear hz
 go_enter Tryz.func47,Tryz.ntmps47
 go_wp2_with fail
 go_loop [1,9] (fun u v=>∃i n:Nat,i<=L.length/\n<=i/\i+mt op cl n (tks (L.drop i))=z/\u= .int .i64 i/\v= .int .i64 n) (fun u _=>L.length-(intOf u).toNat)
 case atStart=>exact⟨i0,0,Z,Yi _,HZ.o.symm,rfl,rfl⟩
 case round=>
  obtain⟨i,n,hi,hn,hm,rfl,rfl⟩:=hrel;have R:=jH hm;clear hm
  by_cases Y:i<L.length
  .obtain⟨c1,_,_⟩:=HR.o i Y
   obtain⟨h4,A⟩:=HK.o L[i] (by simp);rw[h4]at c1;have I:=HO.o _ A;have C:=HC.o _ A
   have F:Hid (mt op cl n (tks (L.drop i))=if L[i].k=cl then(if n=0 then 0 else 1+mt op cl (n-1) (tks (L.drop (i+1)))) else if L[i].k=op then 1+mt op cl (n+1) (tks (L.drop (i+1))) else 1+mt op cl n (tks (L.drop (i+1)))):=by
    show _=_;rw[jBK L i Y,Sl.mt];rfl
   clear h4
   by_cases E:L[i].k=cl
   .have h2:¬L[i].k=op:=by omega
    have h3:((jC L[i].k).toList == H.toList)=false:=by rw[I];simpa using h2
    have h0:((jC L[i].k).toList == cb.toList)=true:=by rw[C];simpa using E
    have K:=jH E;clear I C E h2 A
    cases n with
    |zero=>
     go_wp2_with fail
     go_ret;refine⟨joT ?_,rfl⟩;have:=R.o;rw[F.out,if_pos K.o]at this;simp at this;omega
    |succ n=>
     have h6:((n+1:Nat):Int)≠0:=by omega
     go_wp2_with fail
     go_round
     case rel=>exact⟨i+1,n,by omega,by omega,(by have:=R.o;rw[F.out,if_pos K.o,if_neg (by omega),Nat.add_sub_cancel]at this;omega),by go_num,by go_num⟩
     case measure=>simp[intOf];omega
   .by_cases h2:L[i].k=op
    .have h3:((jC L[i].k).toList == H.toList)=true:=by rw[I];simpa using h2
     have h0:((jC L[i].k).toList == cb.toList)=false:=by rw[C];simpa using E
     have K:=jH E;have H2:=jH h2;clear I C E h2 A
     go_wp2_with fail
     go_round
     case rel=>exact⟨i+1,n+1,by omega,by omega,(by have:=R.o;rw[F.out,if_neg K.o,if_pos H2.o]at this;omega),by go_num,by go_num⟩
     case measure=>simp[intOf];omega
    .have h3:((jC L[i].k).toList == H.toList)=false:=by rw[I];simpa using h2
     have h0:((jC L[i].k).toList == cb.toList)=false:=by rw[C];simpa using E
     have K:=jH E;have H2:=jH h2;clear I C E h2 A
     go_wp2_with fail
     go_round
     case rel=>exact⟨i+1,n,by omega,by omega,(by have:=R.o;rw[F.out,if_neg K.o,if_neg H2.o]at this;omega),by go_num,rfl⟩
     case measure=>simp[intOf];omega
  .have hdz:Hid (i=z):=by
    show _=_;have:=R.o;rw[Ui (by omega)]at this;simpa[tks,Sl.mt] using this
   go_wp2_with fail
   go_ret;exact⟨joT (by rw[hdz.out]),rfl⟩
def dsF:Int->List Tok->List Int
 |_,[]=>[]
 |n,t ::r=>(if t.k=24 then n-1 else n) ::dsF (if t.k=23\/t.k=18 then(if t.k=24 then n-1 else n)+1 else(if t.k=24 then n-1 else n)) r
theorem jHd (l:List Tok):∀n,(dsF n l).length=l.length:=by
 induction l with
 |nil=>intro n;rfl
 |cons t r ih=>intro n;simp[dsF,ih]
theorem Tryz.info3:(Tryz.prog.info? 3).map (fun i=>(i.zero,i.size,i.bytes))=some (some (.int .i64 0),1,8):=by kernel_rfl
set_option maxRecDepth 100000 in
theorem jpJ (L:List Tok) (b off cap:Nat) (w:World) (hL:L.length<=100000) (hc:L.length<=cap) (hb:b<w.heap.size) (hr:RW w b off L) (h7:∀t ∈ L,jnl t) :
 Calls Tryz.prog 76 #[.slice (some ⟨b,off,none⟩) L.length cap] w fun e w'=>∃v,e= .returned v/\w'.ownsRow w.heap.size 3 1 v L.length ((dsF 0 L).map (Value.int .i64))/\Below w.heap.size w w':=by
 obtain⟨i0,h1,h0,h6,h3⟩:=info_parts Tryz.info3;have HR:=jH hr;have HK:=jH h7;clear hr h7
 go_enter Tryz.func76,Tryz.ntmps76
 go_wp2_with fail
 go_loopw [3,4,5] (fun v u j wr=>∃(i:Nat) (n:Int) (acc:List Int),i<=L.length/\acc.length=i/\-(i:Int)<=n/\n<=i/\acc ++dsF n (L.drop i)=dsF 0 L/\u= .int .i64 n/\j= .int .i64 i/\wr.ownsRow w.heap.size 3 1 v i (acc.map (Value.int .i64))/\Below w.heap.size w wr) (fun _ _ j _=>L.length-(intOf j).toNat)
 case atStart=>exact⟨0,0,[],Yi _,rfl,by simp,by simp,by simp,rfl,rfl,Uk _ _ _ _,jB⟩
 case round=>
  obtain⟨i,n,acc,hi,h9,k9,k8,k4,rfl,rfl,A,K⟩:=hrel;have HD:=jH k4;have HA:=jH h9;clear k4 h9;have h5:=K.size
  by_cases h8:i<L.length
  .obtain⟨c1,_,_⟩:=(HR.o.below K hb) i h8
   obtain⟨k2,C⟩:=HK.o L[i] (by simp);rw[k2]at c1
   have U:Hid (dsF n (L.drop i)=(if L[i].k=24 then n-1 else n) ::dsF (if L[i].k=23\/L[i].k=18 then(if L[i].k=24 then n-1 else n)+1 else(if L[i].k=24 then n-1 else n)) (L.drop (i+1))):=by
    show _=_;rw[Ki h8,dsF]
   obtain⟨kk,h4⟩:∃kk,L[i].k=kk:=⟨_,rfl⟩
   rw[h4]at c1 C;have Z:=jrP C;have O:=joq C;have R:=jpO C;have h2:=jH h4;clear k2 h4
   by_cases I:kk=24
   .have e24:((jC kk).toList == [41])=true:=by rw[Z];simpa using I
    have k5:((jC kk).toList == [40])=false:=by rw[O];simp;omega
    have k7:((jC kk).toList == [46,40])=false:=by rw[R];simp;omega
    have W:=jH I;clear Z O R I C
    go_wp2_with (at_builtin;refine wpList_append_own _ rfl (.tmp 20) (.tmp 22) 56 rfl w.heap.size 3 i0 _ 1 8 Tryz.underlying56 h1 h0 h6 h3 rfl (by decide) _ _ _ rfl (A.alloc _) _ 1 1 [.int .i64 (n-1)] rfl rfl (Ja _ _ _ _ rfl) ?_ ?_ ?_ ?_ ?_;(intro u Y;simp at Y;subst Y;rfl);(unfold maxLen;omega);omega;(simp;omega);intro v' w3 E F _;have H:=jmb K h5 _ F (jh7 A);have k1:=(World.grownBy.cell F (a:=⟨b,off+i*3,none⟩) (v:=.string (jC kk)) (by rw[World.cell?_alloc_past _ _ _ (by omega)];exact c1) (fun e=>by have:=jh7 A b e.symm;omega)))
    go_roundw
    case rel=>exact⟨i+1,n-1,acc ++[n-1],by omega,by simp[HA.o],by omega,by omega,(by rw[<-HD.o,U.out,h2.o,if_pos W.o,if_neg (by have:=W.o;omega)];simp),rfl,by go_num,by simpa using E,H⟩
    case measure=>simp[intOf];omega
   .have e24:((jC kk).toList == [41])=false:=by rw[Z];simpa using I
    have W:=jH I
    by_cases ho:kk=23\/kk=18
    .have hor:((jC kk).toList == [40])=true\/(((jC kk).toList == [40])=false/\((jC kk).toList == [46,40])=true):=by
      rw[O,R];simp;omega
     have HO:=jH ho;clear Z O R I C ho
     rcases hor with e1|⟨e1,e2⟩
     all_goals
      go_wp2_with (at_builtin;refine wpList_append_own _ rfl (.tmp 20) (.tmp 22) 56 rfl w.heap.size 3 i0 _ 1 8 Tryz.underlying56 h1 h0 h6 h3 rfl (by decide) _ _ _ rfl (A.alloc _) _ 1 1 [.int .i64 n] rfl rfl (Ja _ _ _ _ rfl) ?_ ?_ ?_ ?_ ?_;(intro u Y;simp at Y;subst Y;rfl);(unfold maxLen;omega);omega;(simp;omega);intro v' w3 E F _;have H:=jmb K h5 _ F (jh7 A);have k1:=(World.grownBy.cell F (a:=⟨b,off+i*3,none⟩) (v:=.string (jC kk)) (by rw[World.cell?_alloc_past _ _ _ (by omega)];exact c1) (fun e=>by have:=jh7 A b e.symm;omega)))
      go_roundw
      case rel=>exact⟨i+1,n+1,acc ++[n],by omega,by simp[HA.o],by omega,by omega,(by rw[<-HD.o,U.out,h2.o,if_neg W.o,if_pos HO.o];simp),rfl,by go_num,by simpa using E,H⟩
      case measure=>simp[intOf];omega
    .have k5:((jC kk).toList == [40])=false:=by rw[O];simp;omega
     have k7:((jC kk).toList == [46,40])=false:=by rw[R];simp;omega
     have HO:=jH ho;clear Z O R I C ho
     go_wp2_with (at_builtin;refine wpList_append_own _ rfl (.tmp 20) (.tmp 22) 56 rfl w.heap.size 3 i0 _ 1 8 Tryz.underlying56 h1 h0 h6 h3 rfl (by decide) _ _ _ rfl (A.alloc _) _ 1 1 [.int .i64 n] rfl rfl (Ja _ _ _ _ rfl) ?_ ?_ ?_ ?_ ?_;(intro u Y;simp at Y;subst Y;rfl);(unfold maxLen;omega);omega;(simp;omega);intro v' w3 E F _;have H:=jmb K h5 _ F (jh7 A);have k1:=(World.grownBy.cell F (a:=⟨b,off+i*3,none⟩) (v:=.string (jC kk)) (by rw[World.cell?_alloc_past _ _ _ (by omega)];exact c1) (fun e=>by have:=jh7 A b e.symm;omega)))
     go_roundw
     case rel=>exact⟨i+1,n,acc ++[n],by omega,by simp[HA.o],by omega,by omega,(by rw[<-HD.o,U.out,h2.o,if_neg W.o,if_neg HO.o];simp),rfl,by go_num,by simpa using E,H⟩
     case measure=>simp[intOf];omega
  .have hii:i=L.length:=by omega
   have HF:Hid (acc=dsF 0 L):=by
    show _=_;have:=HD.o;rw[Ui (by omega)]at this;simpa[dsF] using this
   have HI:=jH hii;clear hii
   go_wp2_with fail
   go_ret;refine⟨_,rfl,?_,K⟩;rw[<-HF.o,<-HI.o];exact A
def jD (L:List Tok) (i:Nat):Nat:=(L[i]?.map Tok.k).getD 0
def joz (L:List Tok) (i:Nat):Int:=((dsF 0 L)[i]?).getD 0
def joa (cls p k:Nat):Bool:=
 if cls=26 then((jC k).toList == [59]) else if cls=27 then jpi (jC k) else if cls=30 then((jC k).toList == [43] || (jC k).toList == [45]) && Sl.ended p
 else(jC k).toList == [42] || (jC k).toList == [47] || (jC k).toList == [37]
def jnO (cls:Nat) (L:List Tok):Nat->Nat->Nat->Nat
 |0,_,a=>a
 |m+1,i,a=>jnO cls L m (i+1) (if joz L i=0/\joa cls (jD L (i-1)) (jD L i)=true/\(cls=26->a=0) then i else a)
theorem jnX (h:wr.ownsRow B e 1 v n xs) (A:1<=n):∃g cap,v= .slice (some ⟨g,0,none⟩) n cap/\B<=g/\g<wr.heap.size/\n<=cap/\cap<=maxLen:=by
 obtain⟨m,rfl⟩:∃m,n=m+1:=⟨n-1,by omega⟩
 exact jvq h
theorem joQ (L:List Tok) (i:Nat) (h:i<L.length):jD L i=L[i].k:=by simp[jD,h]
theorem jpK {L:List Tok}(h:w.ownsRow B 3 1 (.slice (some ⟨g,0,none⟩) L.length cap) L.length ((dsF 0 L).map (Value.int .i64))) (i:Nat) (hi:i<L.length):w.cell? ⟨g,i,none⟩=some (.int .i64 (joz L i)):=by
 rw[h.cellAt i (by omega)];have:i<(dsF 0 L).length:=by rw[jHd];exact hi
 simp[joz,this]
set_option maxRecDepth 100000 in
theorem jJF (U:(k=26/\s=⟨#[59]⟩)\/(k=27/\s=⟨#[61]⟩)\/(k=30/\s=⟨#[43]⟩)\/(k=32/\s=⟨#[42]⟩)) (L:List Tok) (b off cap:Nat) (w:World) (hL:L.length<=100000) (Y:1<=L.length) (hc:L.length<=cap) (hb:b<w.heap.size) (hr:RW w b off L) (Z:∀t ∈ L,jnl t) :
 Calls Tryz.prog 49 #[.slice (some ⟨b,off,none⟩) L.length cap,.string s] w fun e w'=>e= .returned (.int .i64 ((jnO k L (L.length-1) 1 0:Nat):Int))/\Below w.heap.size w w':=by
 have h7:=jH U;have HR:=jH hr;have HK:=jH Z;clear hr Z U
 obtain⟨z,hz⟩:∃z,z=jnO k L (L.length-1) 1 0:=⟨_,rfl⟩
 rw[<-hz];have HZ:=jH hz;clear hz
 go_enter Tryz.func49,Tryz.ntmps49
 go_wp2_with (go_at_call 76;refine(jpJ L b off cap w hL hc hb HR.o HK.o).mono ?_;rintro e w1 ⟨v,rfl,hv,h1⟩;obtain⟨gd,k1,rfl,h8,k8,h3,h9⟩:=jnX hv Y)
 have k2:=h3;have HV:=jH hv;have h5:Hid (RW w1 b off L):=HR.o.below h1 hb;clear hv h3 h9 h8
 go_loop [6,7] (fun u v=>∃a i:Nat,1<=i/\i<=L.length/\a<=L.length/\jnO k L (L.length-i) i a=z/\u= .int .i64 a/\v= .int .i64 i) (fun _ v=>L.length-(intOf v).toNat)
 case atStart=>exact⟨0,1,jN,Y,Yi _,HZ.o.symm,rfl,rfl⟩
 case round=>
  obtain⟨a,i,k7,hi,k5,hs,rfl,rfl⟩:=hrel;have HS:=jH hs;clear hs
  by_cases I:i<L.length
  .obtain⟨c1,_,_⟩:=h5.o i I
   obtain⟨p1,_,_⟩:=h5.o (i-1) (by omega);obtain⟨h4,h6⟩:=HK.o L[i] (by simp);obtain⟨h2,E⟩:=HK.o L[i-1] (by simp);have h0:=jpK HV.o i I;rw[h4]at c1;rw[h2]at p1
   obtain⟨kk,W⟩:∃kk,L[i].k=kk:=⟨_,rfl⟩
   obtain⟨pp,R⟩:∃pp,L[i-1].k=pp:=⟨_,rfl⟩
   obtain⟨K,O⟩:∃K,joz L i=K:=⟨_,rfl⟩
   rw[W]at c1 h6;rw[R]at p1 E;rw[O]at h0
   have C:Hid (jnO k L (L.length-(i+1)) (i+1) (if K=0/\joa k pp kk=true/\(k=26->a=0) then i else a)=z):=by
    show _=_;have:=HS.o;rw[show L.length-i=(L.length-(i+1))+1 by omega,jnO,O,joQ L i I,joQ L (i-1) (by omega),W,R]at this;exact this
   clear h4 h2 W R O
   by_cases F:K=0
   .have H:=jH F
    rw[F]at h0;clear F
    obtain⟨z0,k4⟩:∃z0:Nat,z0=a:=⟨a,rfl⟩
    rcases h7.o with⟨rfl,rfl⟩|⟨rfl,rfl⟩|⟨rfl,rfl⟩|⟨rfl,rfl⟩
    .by_cases ha0:a=0
     all_goals
      cases t0 :((jC kk).toList == [59])
      all_goals
       go_wp2_with (first|(go_at_call 74;refine(jqE _ _).mono ?_;rintro e w' ⟨rfl,A⟩;subst A)|(go_at_call 77;refine(jtT E _).mono ?_;rintro e w' ⟨rfl,A⟩;subst A))
       all_goals go_round
       case rel=>first|exact⟨i,i+1,by omega,by omega,by omega,(by have h:=C.o;rw[if_pos ⟨H.o,by simp[joa,t0],by simp[ha0]⟩]at h;exact h),rfl,by go_num⟩|exact⟨a,i+1,by omega,by omega,by omega,(by have h:=C.o;rw[if_neg (by simp[joa,t0,ha0])]at h;exact h),(by first|rfl|(rw[ha0];rfl)),by go_num⟩
       case measure=>simp[intOf];omega
    .by_cases ha0:a=0
     all_goals
      cases t0 :jpi (jC kk)
      all_goals
       go_wp2_with (first|(go_at_call 74;refine(jqE _ _).mono ?_;rintro e w' ⟨rfl,A⟩;subst A)|(go_at_call 77;refine(jtT E _).mono ?_;rintro e w' ⟨rfl,A⟩;subst A))
       all_goals go_round
       case rel=>first|exact⟨i,i+1,by omega,by omega,by omega,(by have h:=C.o;rw[if_pos ⟨H.o,by simp[joa,t0],by simp[ha0]⟩]at h;exact h),rfl,by go_num⟩|exact⟨a,i+1,by omega,by omega,by omega,(by have h:=C.o;rw[if_neg (by simp[joa,t0,ha0])]at h;exact h),(by first|rfl|(rw[ha0];rfl)),by go_num⟩
       case measure=>simp[intOf];omega
    .by_cases ha0:a=0
     all_goals
      cases t0 :((jC kk).toList == [43])
      all_goals
       cases t1 :((jC kk).toList == [45])
       all_goals
        cases t2 :Sl.ended pp
        all_goals
         go_wp2_with (first|(go_at_call 74;refine(jqE _ _).mono ?_;rintro e w' ⟨rfl,A⟩;subst A)|(go_at_call 77;refine(jtT E _).mono ?_;rintro e w' ⟨rfl,A⟩;subst A))
         all_goals go_round
         case rel=>first|exact⟨i,i+1,by omega,by omega,by omega,(by have h:=C.o;rw[if_pos ⟨H.o,by simp[joa,t0,t1,t2],by simp[ha0]⟩]at h;exact h),rfl,by go_num⟩|exact⟨a,i+1,by omega,by omega,by omega,(by have h:=C.o;rw[if_neg (by simp[joa,t0,t1,t2,ha0])]at h;exact h),(by first|rfl|(rw[ha0];rfl)),by go_num⟩
         case measure=>simp[intOf];omega
    .by_cases ha0:a=0
     all_goals
      cases t0 :((jC kk).toList == [42])
      all_goals
       cases t1 :((jC kk).toList == [47])
       all_goals
        cases t2 :((jC kk).toList == [37])
        all_goals
         go_wp2_with (first|(go_at_call 74;refine(jqE _ _).mono ?_;rintro e w' ⟨rfl,A⟩;subst A)|(go_at_call 77;refine(jtT E _).mono ?_;rintro e w' ⟨rfl,A⟩;subst A))
         all_goals go_round
         case rel=>first|exact⟨i,i+1,by omega,by omega,by omega,(by have h:=C.o;rw[if_pos ⟨H.o,by simp[joa,t0,t1,t2],by simp[ha0]⟩]at h;exact h),rfl,by go_num⟩|exact⟨a,i+1,by omega,by omega,by omega,(by have h:=C.o;rw[if_neg (by simp[joa,t0,t1,t2,ha0])]at h;exact h),(by first|rfl|(rw[ha0];rfl)),by go_num⟩
         case measure=>simp[intOf];omega
   .have hd0':(K != 0)=true:=by simpa using F
    have H:=jH F;clear F
    go_wp2_with fail
    go_round
    case rel=>exact⟨a,i+1,by omega,by omega,by omega,(by have h:=C.o;rw[if_neg (fun h'=>H.o h'.1)]at h;exact h),rfl,by go_num⟩
    case measure=>simp[intOf];omega
  .have hzz:Hid (a=z):=by
    show _=_;have:=HS.o;rw[show L.length-i=0 by omega,jnO]at this;exact this
   go_wp2_with fail
   go_ret;exact⟨joT (by rw[hzz.out]),h1⟩
def jns (l:List Tok):List ByteArray:=(l.filter (fun t=>t.k == 2)).map Tok.t
theorem jzm (t:Tok) (r:List Tok):jns (t ::r)=if t.k=2 then t.t ::jns r else jns r:=by
 unfold jns
 by_cases h:t.k=2 <;> simp[h]
set_option maxRecDepth 100000 in
theorem jBM (L:List Tok) (b off cap:Nat) (w:World) (hL:L.length<=100000) (hc:L.length<=cap) (hb:b<w.heap.size) (hr:RW w b off L) (K:∀t ∈ L,jnl t) :
 Calls Tryz.prog 48 #[.slice (some ⟨b,off,none⟩) L.length cap] w fun e w'=>∃v,e= .returned v/\w'.ownsRow w.heap.size 9 1 v (jns L).length ((jns L).map Value.string)/\Below w.heap.size w w':=by
 obtain⟨i0,h4,h3,h9,h6⟩:=info_parts Tryz.info9;have HR:=jH hr;have HK:=jH K;clear hr K
 go_enter Tryz.func48,Tryz.ntmps48
 go_wp2_with fail
 go_loopw [3,4] (fun v j wr=>∃(i m:Nat) (acc:List ByteArray),i<=L.length/\acc.length=m/\m<=i/\acc ++jns (L.drop i)=jns L/\j= .int .i64 i/\wr.ownsRow w.heap.size 9 1 v m (acc.map Value.string)/\Below w.heap.size w wr) (fun _ j _=>L.length-(intOf j).toNat)
 case atStart=>exact⟨0,0,[],Yi _,rfl,jN,by simp,rfl,Uk _ _ _ _,jB⟩
 case round=>
  obtain⟨i,m,acc,hi,W,hm,h0,rfl,A,C⟩:=hrel;have HD:=jH h0;have HA:=jH W;clear h0 W;have h8:=C.size
  by_cases U:i<L.length
  .obtain⟨c1,c2,_⟩:=(HR.o.below C hb) i U
   obtain⟨Z,H⟩:=HK.o L[i] (by simp);rw[Z]at c1;have q2:=nk2 H
   have E:Hid (jns (L.drop i)=if L[i].k=2 then L[i].t ::jns (L.drop (i+1)) else jns (L.drop (i+1))):=by
    show _=_;rw[Ki U,jzm]
   obtain⟨kk,I⟩:∃kk,L[i].k=kk:=⟨_,rfl⟩
   obtain⟨tt,O⟩:∃tt,L[i].t=tt:=⟨_,rfl⟩
   rw[I]at c1 q2;rw[O]at c2;have Y:=jH I;have h7:=jH O;clear Z I O H
   by_cases F:kk=2
   .have e2:((jC kk).toList == [105,100])=true:=by rw[q2];simpa using F
    have H2:=jH F;clear q2 F
    go_wp2_with (at_builtin;refine wpList_append_own _ rfl (.tmp 17) (.tmp 23) 87 rfl w.heap.size 9 i0 _ 1 16 Tryz.underlying87 h4 h3 h9 h6 rfl (by decide) _ _ _ rfl (A.alloc _) _ 1 1 [.string tt] rfl rfl (Ja _ _ _ _ rfl) ?_ ?_ ?_ ?_ ?_;(intro u hu;simp at hu;subst hu;rfl);(unfold maxLen;omega);omega;(simp;omega);intro v' w3 R h5 _;have h1:=jmb C h8 _ h5 (jh7 A))
    go_roundw
    case rel=>exact⟨i+1,m+1,acc ++[tt],by omega,by simp[HA.o],by omega,(by rw[<-HD.o,E.out,Y.o,if_pos H2.o,h7.o];simp),by go_num,by simpa using R,h1⟩
    case measure=>simp[intOf];omega
   .have e2:((jC kk).toList == [105,100])=false:=by rw[q2];simpa using F
    have H2:=jH F;clear q2 F
    go_wp2_with fail
    go_roundw
    case rel=>exact⟨i+1,m,acc,by omega,HA.o,by omega,(by rw[<-HD.o,E.out,Y.o,if_neg H2.o]),by go_num,A,C⟩
    case measure=>simp[intOf];omega
  .have HF:Hid (acc=jns L):=by
    show _=_;have:=HD.o;rw[Ui (by omega)]at this;simpa[jns] using this
   go_wp2_with fail
   go_ret;refine⟨_,rfl,?_,C⟩;rw[<-HF.o,HA.o];exact A
def joX (L:List Tok) (i:Nat):Prop:=i=L.length\/(joz L i=0/\jD L i≠24/\jD L i≠18)
instance (L:List Tok) (i:Nat):Decidable (joX L i):=by unfold joX;exact inferInstance
def opN (L:List Tok):Nat->Nat->Nat->List (Nat × Nat)
 |0,_,_=>[]
 |m+1,i,f=>if joX L i then(f,i) ::opN L m (i+1) i else opN L m (i+1) f
def cutV (b off cap:Nat) (p:Nat × Nat):Value:=.slice (some ⟨b,off+p.1*3,none⟩) (p.2-p.1) (cap-p.1)
theorem Tryz.info74:(Tryz.prog.info? 74).map (fun i=>(i.zero,i.size,i.bytes))=some (some (.slice none 0 0),1,24):=by kernel_rfl
theorem jD7 {B' m sz:Nat}(h:wr.ownsRow B' e sz v m xs) (C:B<=B'):wr.ownsRow B e sz v m xs:=by
 refine⟨h.1,?_⟩
 rcases h.2 with I|⟨g,cap,A,F,H,E⟩
 .exact Or.inl I
 .exact Or.inr ⟨g,cap,A,F,Ym C H,E⟩
set_option maxRecDepth 100000 in
theorem jEc (L:List Tok) (b off cap:Nat) (w:World) (hL:L.length<=100000) (h9:1<=L.length) (hc:L.length<=cap) (hb:b<w.heap.size) (hr:RW w b off L) (h5:∀t ∈ L,jnl t) :
 Calls Tryz.prog 78 #[.slice (some ⟨b,off,none⟩) L.length cap] w fun e w'=>∃v,e= .returned v/\w'.ownsRow w.heap.size 74 1 v (opN L L.length 1 0).length ((opN L L.length 1 0).map (cutV b off cap))/\Below w.heap.size w w':=by
 obtain⟨i0,k1,h6,k8,h8⟩:=info_parts Tryz.info74;have HR:=jH hr;have HK:=jH h5;clear hr h5
 obtain⟨z,hz⟩:∃z,z=opN L L.length 1 0:=⟨_,rfl⟩
 rw[<-hz];have HZ:=jH hz;clear hz
 go_enter Tryz.func78,Tryz.ntmps78
 go_wp2_with (go_at_call 76;refine(jpJ L b off cap w hL hc hb HR.o HK.o).mono ?_;rintro e w1 ⟨v,rfl,hv,h1⟩;obtain⟨gd,r3,rfl,r7,r1,r6,q7⟩:=jnX hv h9)
 have HV:=jH hv;have q8:Hid (RW w1 b off L):=HR.o.below h1 hb;have k2:=h1.size;clear hv q7
 go_loopw [4,5,6] (fun v u j wr=>∃(m f i:Nat) (acc:List (Nat × Nat)),1<=i/\i<=L.length+1/\f<i/\f<=L.length/\m<i/\acc.length=m/\acc ++opN L (L.length+1-i) i f=z/\u= .int .i64 f/\j= .int .i64 i/\wr.ownsRow w1.heap.size 74 1 v m (acc.map (cutV b off cap))/\Below w1.heap.size w1 wr) (fun _ _ j _=>L.length+1-(intOf j).toNat)
 case atStart=>exact⟨0,0,1,[],jN,by omega,by omega,by omega,by omega,rfl,(by rw[HZ.o];simp),rfl,rfl,Uk _ _ _ _,jB⟩
 case round=>
  obtain⟨m,f,i,acc,r5,hi,hf,r8,hm,h7,k9,rfl,rfl,A,C⟩:=hrel;have HD:=jH k9;have HA:=jH h7;clear k9 h7;have k5:=C.size
  by_cases r4:i<=L.length
  .have hstep:Hid (opN L (L.length+1-i) i f=if joX L i then(f,i) ::opN L (L.length+1-(i+1)) (i+1) i else opN L (L.length+1-(i+1)) (i+1) f):=by
    show _=_;rw[show L.length+1-i=(L.length+1-(i+1))+1 by omega,opN]
   by_cases I:i=L.length
   .have q5:((i:Int) == (L.length:Int))=true:=by simp[I]
    have U:Hid (joX L i):=Or.inl I;have Z:=jH I;clear I
    go_wp2_with (at_builtin;refine wpList_append_own _ rfl (.tmp 47) (.tmp 49) 134 rfl w1.heap.size 74 i0 _ 1 24 Tryz.underlying134 k1 h6 k8 h8 rfl (by decide) _ _ _ rfl (A.alloc _) _ 1 1 [cutV b off cap (f,i)] rfl rfl (Ja _ _ _ _ rfl) ?_ ?_ ?_ ?_ ?_;(intro u hu;simp at hu;subst hu;rfl);(unfold maxLen;omega);omega;(simp;omega);intro v' w3 R h0 _;have W:=jmb C k5 _ h0 (jh7 A))
    go_roundw
    case rel=>exact⟨m+1,i,i+1,acc ++[(f,i)],by omega,by omega,by omega,by omega,by omega,by simp[HA.o],(by rw[<-HD.o,hstep.out,if_pos U.o];simp),rfl,by go_num,by simpa using R,W⟩
    case measure=>simp[intOf];omega
   .have hlt:i<L.length:=by omega
    have q5:((i:Int) == (L.length:Int))=false:=by simp;omega
    obtain⟨c1,_,_⟩:=(q8.o.below C (by omega)) i hlt;obtain⟨k7,Y⟩:=HK.o L[i] (by simp);have k4:=(C.cell (p:=⟨gd,i,none⟩) r1).trans (jpK HV.o i hlt);rw[k7]at c1;have F:=jrP Y;have E:=jpO Y;have Z:=jH I;have r2:Hid (jD L i=L[i].k):=joQ L i hlt
    obtain⟨kk,h4⟩:∃kk,L[i].k=kk:=⟨_,rfl⟩
    obtain⟨dv,h2⟩:∃dv,joz L i=dv:=⟨_,rfl⟩
    rw[h4]at c1 F E;rw[h2]at k4;have h3:Hid (jD L i=kk):=r2.o.trans h4;have q4:=jH h2;clear k7 h4 h2 I Y
    by_cases K:dv=0
    .rw[K]at k4
     have q9:=jH K;clear K
     by_cases O:kk=24
     .have e24:((jC kk).toList == [41])=true:=by rw[F];simpa using O
      have U:Hid (¬joX L i):=by
       show ¬_;unfold joX;rw[h3.o];intro h;rcases h with h|h
       .exact Z.o h
       .exact h.2.1 O
      clear F E O
      go_wp2_with fail
      go_roundw
      case rel=>exact⟨m,f,i+1,acc,by omega,by omega,by omega,by omega,by omega,HA.o,(by rw[<-HD.o,hstep.out,if_neg U.o]),rfl,by go_num,A,C⟩
      case measure=>simp[intOf];omega
     .have e24:((jC kk).toList == [41])=false:=by rw[F];simpa using O
      have q6:=jH O;clear O
      by_cases H:kk=18
      .have e18:((jC kk).toList == [46,40])=true:=by rw[E];simpa using H
       have U:Hid (¬joX L i):=by
        show ¬_;unfold joX;rw[h3.o];intro h;rcases h with h|h
        .exact Z.o h
        .exact h.2.2 H
       clear F E H
       go_wp2_with fail
       go_roundw
       case rel=>exact⟨m,f,i+1,acc,by omega,by omega,by omega,by omega,by omega,HA.o,(by rw[<-HD.o,hstep.out,if_neg U.o]),rfl,by go_num,A,C⟩
       case measure=>simp[intOf];omega
      .have e18:((jC kk).toList == [46,40])=false:=by rw[E];simpa using H
       have U:Hid (joX L i):=by
        show joX L i;unfold joX;rw[h3.o,q4.o];exact Or.inr ⟨q9.o,q6.o,H⟩
       clear F E H
       go_wp2_with (at_builtin;refine wpList_append_own _ rfl (.tmp 47) (.tmp 49) 134 rfl w1.heap.size 74 i0 _ 1 24 Tryz.underlying134 k1 h6 k8 h8 rfl (by decide) _ _ _ rfl (A.alloc _) _ 1 1 [cutV b off cap (f,i)] rfl rfl (Ja _ _ _ _ rfl) ?_ ?_ ?_ ?_ ?_;(intro u hu;simp at hu;subst hu;rfl);(unfold maxLen;omega);omega;(simp;omega);intro v' w3 R h0 _;have W:=jmb C k5 _ h0 (jh7 A))
       go_roundw
       case rel=>exact⟨m+1,i,i+1,acc ++[(f,i)],by omega,by omega,by omega,by omega,by omega,by simp[HA.o],(by rw[<-HD.o,hstep.out,if_pos U.o];simp),rfl,by go_num,by simpa using R,W⟩
       case measure=>simp[intOf];omega
    .have hd0':(dv == 0)=false:=by simpa using K
     have U:Hid (¬joX L i):=by
      show ¬_;unfold joX;rw[q4.o];intro h;rcases h with h|h
      .exact Z.o h
      .exact K h.1
     clear F E K
     go_wp2_with fail
     go_roundw
     case rel=>exact⟨m,f,i+1,acc,by omega,by omega,by omega,by omega,by omega,HA.o,(by rw[<-HD.o,hstep.out,if_neg U.o]),rfl,by go_num,A,C⟩
     case measure=>simp[intOf];omega
  .have HF:Hid (acc=z):=by
    show _=_;have:=HD.o;rw[show L.length+1-i=0 by omega,opN]at this;simpa using this
   go_wp2_with fail
   go_ret;refine⟨_,rfl,?_,h1.trans (C.mono k2)⟩;rw[<-HF.o,HA.o];exact jD7 A k2
inductive G where
 |nd (form:ByteArray) (pos num:Int) (name:ByteArray) (names:List ByteArray) (kids:List G)
def jpV (B n:Nat) (w w':World):Prop:=∀b,B<=b->b<n->w'.heap[b]? =w.heap[b]?
def jpl (w:World) (B n:Nat) (v:Value) (xs:List Value):Prop:=
 (xs=[]/\∃a cap,v= .slice a 0 cap)\/∃g off cap,v= .slice (some ⟨g,off,none⟩) xs.length cap/\B<=g/\g<n/\xs.length<=cap/\∀i u,xs[i]? =some u->w.cell? ⟨g,off+i,none⟩=some u
mutual
inductive HT (w:World) (B n:Nat):Value->G->Prop
 |nd {b:Nat}{form name:ByteArray}{pos num:Int}{names:List ByteArray}{kids:List G}{nv kv:Value}{ps:List Value} :
  B<=b->b<n->w.heap[b]? =some (.cells #[.string form,.int .i64 pos,.int .i64 num,.string name,nv,kv] 117 (0,0))->
  jpl w B n nv (names.map Value.string)->jpl w B n kv ps->HTs w B n ps kids->HT w B n (.pointer (some ⟨b,0,none⟩)) (.nd form pos num name names kids)
inductive HTs (w:World) (B n:Nat):List Value->List G->Prop
 |nil:HTs w B n [] []
 |cons {v:Value}{g:G}{vs:List Value}{gs:List G}:HT w B n v g->HTs w B n vs gs->HTs w B n (v ::vs) (g ::gs)
end
theorem jpl.keep (h:jpl w B n v xs) (hk:jpV B n w w'):jpl w' B n v xs:=by
 rcases h with h|⟨g,off,cap,F,C,A,E,H⟩
 .exact Or.inl h
 .refine Or.inr ⟨g,off,cap,F,C,A,E,fun i u hu=>?_⟩
  rw[<-H i u hu];exact Ke (w:=w) (a:=⟨g,off+i,none⟩) (hk g C A)
theorem jpl.wide {B' A:Nat}(h:jpl w B n v xs) (I:B'<=B) (H:n<=A):jpl w B' A v xs:=by
 rcases h with h|⟨g,off,cap,E,O,K,C,F⟩
 .exact Or.inl h
 .exact Or.inr ⟨g,off,cap,E,by omega,by omega,C,F⟩
mutual
theorem HT.keep {w w':World}{B n:Nat}{v:Value}{g:G}(h:HT w B n v g) (hk:jpV B n w w'):HT w' B n v g:=by
 cases h with
 |nd h1 h2 h3 h4 h5 h6=>exact .nd h1 h2 (by rw[hk _ h1 h2];exact h3) (h4.keep hk) (h5.keep hk) (HTs.keep h6 hk)
theorem HTs.keep {w w':World}{B n:Nat}{v:List Value}{g:List G}(h:HTs w B n v g) (hk:jpV B n w w'):HTs w' B n v g:=by
 cases h with
 |nil=>exact .nil
 |cons h1 h2=>exact .cons (HT.keep h1 hk) (HTs.keep h2 hk)
end
mutual
theorem HT.wide {w:World}{B n B' E:Nat}{v:Value}{g:G}(h:HT w B n v g) (A:B'<=B) (C:n<=E):HT w B' E v g:=by
 cases h with
 |nd h1 h2 h3 h4 h5 h6=>exact .nd (by omega) (by omega) h3 (h4.wide A C) (h5.wide A C) (HTs.wide h6 A C)
theorem HTs.wide {w:World}{B n B' A:Nat}{v:List Value}{g:List G}(h:HTs w B n v g) (C:B'<=B) (E:n<=A):HTs w B' A v g:=by
 cases h with
 |nil=>exact .nil
 |cons h1 h2=>exact .cons (HT.wide h1 C E) (HTs.wide h2 C E)
end
theorem jqH (h:Below B w w') (A:Nat):jpV A B w w':=fun b _ hb=>h.block b hb
theorem jsh {m:Nat}(h:w.ownsRow B e 1 v m xs):jpl w B w.heap.size v xs:=by
 have I:=h.1
 rcases h.2 with⟨A,C⟩|⟨g,cap,H,A,C,F,E,O,K,R⟩
 .refine Or.inl ⟨List.length_eq_zero_iff.mp (by omega),_,_,A⟩
 .have hm:m=xs.length:=by omega
  subst hm;subst A;refine Or.inr ⟨g,0,cap,rfl,C,lt_of_block F,E,fun i u hu=>?_⟩
  have hi:i<xs.length:=by
   rcases Kg i xs.length with h|h
   .exact h
   .rw[Ue h]at hu;simp at hu
  rw[Kc];exact(h.cellAt i (by omega)).trans hu
abbrev jwi:ByteArray:=⟨#[110,117,109]⟩
abbrev jr1:ByteArray:=⟨#[98,111,111,108]⟩
abbrev jwd:ByteArray:=⟨#[117,110,105,116]⟩
abbrev jwc:ByteArray:=⟨#[118,97,114]⟩
abbrev jwg:ByteArray:=⟨#[114,101,97,100]⟩
abbrev jwk:ByteArray:=⟨#[110,101,103]⟩
abbrev jwj:ByteArray:=⟨#[110,111,116]⟩
abbrev jsz:ByteArray:=⟨#[111,112]⟩
abbrev jwm:ByteArray:=⟨#[105,102]⟩
abbrev jwl:ByteArray:=⟨#[108,101,116]⟩
abbrev jwh:ByteArray:=⟨#[112,97,105,114]⟩
abbrev jwf:ByteArray:=⟨#[114,101,99]⟩
abbrev jwn:ByteArray:=⟨#[102,117,110]⟩
abbrev jtS:ByteArray:=⟨#[99,97,108,108]⟩
abbrev jrs:ByteArray:=⟨#[116,117,112,108,101]⟩
abbrev jqY:ByteArray:=⟨#[103,101,116]⟩
abbrev jwe:ByteArray:=⟨#[115,101,113]⟩
abbrev f_0:ByteArray:=⟨#[]⟩
def jm4 (L:List Tok) (i j:Nat):List Tok:=(L.drop i).take (j-i)
theorem jn1 (L:List Tok) {i j:Nat}(h:i<=j) (A:j<=L.length):(jm4 L i j).length=j-i:=by
 unfold jm4;rw[List.length_take,Ys];omega
def mtL (L:List Tok) (i op cl:Nat):Nat:=i+mt op cl 0 (tks (L.drop i))
def spl (cls:Nat) (L:List Tok):Nat:=jnO cls L (L.length-1) 1 0
def ixN (L:List Tok):Nat->Nat->Nat->Nat
 |0,_,a=>a
 |m+1,i,a=>ixN L m (i+1) (if joz L i=0/\jD L i=18 then i else a)
def ixL (L:List Tok):Nat:=ixN L (L.length-1) 1 0
def cmN (L:List Tok):Nat->Nat->Nat->List (Nat × Nat) × Nat
 |0,_,f=>([],f)
 |m+1,i,f=>if joz L i=0/\jD L i=25 then((f,i) ::(cmN L m (i+1) (i+1)).1,(cmN L m (i+1) (i+1)).2) else cmN L m (i+1) f
def cmL (L:List Tok):List (Nat × Nat) × Nat:=cmN L L.length 0 0
def opL (L:List Tok):List (Nat × Nat):=opN L L.length 1 0
def jpL (k:Nat):Bool:=k == 14 || k == 15 || k == 16 || k == 17
def jm7 (L:List Tok) (i:Nat):Tok:=L[i]?.getD ⟨0,0,0,⟨#[]⟩⟩
def G.pos:G->Int
 | .nd _ p _ _ _ _=>p
mutual
inductive TG:Nat->Int->List Tok->G->Prop
 |lt {p:Int}{L:List Tok}{a b:G}{e i:Nat}:jD L 0=3->mtL L 1 99 27=e->mtL L 1 3 5=i->1<=e->e<i->i+1<L.length->e+1<i->(jns (jm4 L 1 e)).length≠0->jD L 1≠4->jD L 1≠23->
  TG 0 0 (jm4 L (e+1) i) a->TG 0 0 (L.drop (i+1)) b->TG 0 p L (.nd jwl (jm7 L 0).p 0 ((jns (jm4 L 1 e)).headD ⟨#[]⟩) [] [a,b])
 |rc {p:Int}{L:List Tok}{a b:G}{e i:Nat}:jD L 0=3->mtL L 1 99 27=e->mtL L 1 3 5=i->1<=e->e<i->i+1<L.length->e+1<i->2<=(jns (jm4 L 1 e)).length->jD L 1=4->
  TG 0 0 (jm4 L (e+1) i) a->TG 0 0 (L.drop (i+1)) b->TG 0 p L (.nd jwf (jm7 L 0).p 0 ((jns (jm4 L 1 e)).headD ⟨#[]⟩) (jns (jm4 L 1 e)).tail [a,b])
 |pr {p:Int}{L:List Tok}{a b:G}{e i:Nat}:jD L 0=3->mtL L 1 99 27=e->mtL L 1 3 5=i->1<=e->e<i->i+1<L.length->e+1<i->(jns (jm4 L 1 e)).length≠0->jD L 1=23->
  TG 0 0 (jm4 L (e+1) i) a->TG 0 0 (L.drop (i+1)) b->TG 0 p L (.nd jwh (jm7 L 0).p 0 f_0 (jns (jm4 L 1 e)) [a,b])
 |iff {p:Int}{L:List Tok}{a b c:G}{i j:Nat}:jD L 0=6->mtL L 1 6 7=i->mtL L (i+1) 6 8=j->1<i->i+1<j->j+1<L.length->
  TG 0 0 (jm4 L 1 i) a->TG 0 0 (jm4 L (i+1) j) b->TG 0 0 (L.drop (j+1)) c->TG 0 p L (.nd jwm (jm7 L 0).p 0 f_0 [] [a,b,c])
 |fn {p:Int}{L:List Tok}{b:G}{i:Nat}:jD L 0=9->mtL L 1 99 22=i->1<=i->i+1<L.length->
  TG 0 0 (L.drop (i+1)) b->TG 0 p L (.nd jwn (jm7 L 0).p 0 f_0 (jns (jm4 L 1 i)) [b])
 |sq {p:Int}{L:List Tok}{a b:G}{i:Nat}:jD L 0≠3->jD L 0≠6->jD L 0≠9->spl 26 L=i->0<i->i+1<L.length->
  TG 0 0 (jm4 L 0 i) a->TG 0 0 (L.drop (i+1)) b->TG 0 p L (.nd jwe (jm7 L i).p 0 f_0 [] [a,b])
 |cm {p:Int}{L:List Tok}{a b:G}{i:Nat}:jD L 0≠3->jD L 0≠6->jD L 0≠9->spl 26 L=0->spl 27 L=i->0<i->i+1<L.length->
  TG 0 0 (jm4 L 0 i) a->TG 0 0 (L.drop (i+1)) b->TG 0 p L (.nd jsz (jm7 L i).p 0 (jm7 L i).t [] [a,b])
 |su {p:Int}{L:List Tok}{a b:G}{i:Nat}:jD L 0≠3->jD L 0≠6->jD L 0≠9->spl 26 L=0->spl 27 L=0->spl 30 L=i->0<i->i+1<L.length->
  TG 0 0 (jm4 L 0 i) a->TG 0 0 (L.drop (i+1)) b->TG 0 p L (.nd jsz (jm7 L i).p 0 (jm7 L i).t [] [a,b])
 |po {p:Int}{L:List Tok}{a b:G}{i:Nat}:jD L 0≠3->jD L 0≠6->jD L 0≠9->spl 26 L=0->spl 27 L=0->spl 30 L=0->spl 32 L=i->0<i->i+1<L.length->
  TG 0 0 (jm4 L 0 i) a->TG 0 0 (L.drop (i+1)) b->TG 0 p L (.nd jsz (jm7 L i).p 0 (jm7 L i).t [] [a,b])
 |ng {p:Int}{L:List Tok}{a:G}:jD L 0=31->spl 26 L=0->spl 27 L=0->spl 30 L=0->spl 32 L=0->1<L.length->TG 0 0 (L.drop 1) a->TG 0 p L (.nd jwk (jm7 L 0).p 0 f_0 [] [a])
 |nt {p:Int}{L:List Tok}{a:G}:jD L 0=10->spl 26 L=0->spl 27 L=0->spl 30 L=0->spl 32 L=0->1<L.length->TG 0 0 (L.drop 1) a->TG 0 p L (.nd jwj (jm7 L 0).p 0 f_0 [] [a])
 |ca {p:Int}{L:List Tok}{g:G}:jD L 0≠3->jD L 0≠6->jD L 0≠9->jD L 0≠31->jD L 0≠10->spl 26 L=0->spl 27 L=0->spl 30 L=0->spl 32 L=0->0<L.length->TG 1 (jm7 L 0).p L g->TG 0 p L g
 |wd {p:Int}{L:List Tok}{gs:List G}:jpL (jD L 0)=true->1<L.length->TGs 2 ((opL (L.drop 1)).map (fun q=>jm4 (L.drop 1) q.1 q.2)) gs->TG 1 p L (.nd (jC (jD L 0)) p 0 f_0 [] gs)
 |o1 {p:Int}{L:List Tok}{g:G}:jpL (jD L 0)=false->0<L.length->(opL L).length=1->TG 2 p L g->TG 1 p L g
 |cl {p:Int}{L:List Tok}{g:G}{gs:List G}:jpL (jD L 0)=false->0<L.length->(opL L).length≠1->TGs 2 ((opL L).map (fun q=>jm4 L q.1 q.2)) (g ::gs)->TG 1 p L (.nd jtS g.pos 0 f_0 [] (g ::gs))
 |gt {p:Int}{L:List Tok}{a b:G}{i:Nat}:ixL L=i->0<i->i+2<L.length->TG 2 (jm7 L 0).p (jm4 L 0 i) a->TG 0 0 (jm4 L (i+1) (L.length-1)) b->TG 2 p L (.nd jqY (jm7 L i).p 0 f_0 [] [a,b])
 |nu {p:Int}{L:List Tok}:ixL L=0->0<L.length->jD L 0=1->jod (jm7 L 0).t=some (jm7 L 0).n->(jm7 L 0).t.size<=1000->TG 2 p L (.nd jwi p (jm7 L 0).n f_0 [] [])
 |tr {p:Int}{L:List Tok}:ixL L=0->0<L.length->jD L 0=11->TG 2 p L (.nd jr1 p 1 f_0 [] [])
 |fa {p:Int}{L:List Tok}:ixL L=0->0<L.length->jD L 0=12->TG 2 p L (.nd jr1 p 0 f_0 [] [])
 |rd {p:Int}{L:List Tok}:ixL L=0->0<L.length->jD L 0=13->TG 2 p L (.nd jwg p 0 f_0 [] [])
 |vr {p:Int}{L:List Tok}:ixL L=0->0<L.length->jD L 0=2->TG 2 p L (.nd jwc p 0 (jm7 L 0).t [] [])
 |bk {p:Int}{L:List Tok}{g:G}:ixL L=0->1<L.length->jD L 0=23->TG 3 p (jm4 L 1 (L.length-1)) g->TG 2 p L g
 |un {p:Int}:TG 3 p [] (.nd jwd p 0 f_0 [] [])
 |on {p:Int}{L:List Tok}{g:G}:0<L.length->cmL L=([],0)->TG 0 0 L g->TG 3 p L g
 |tu {p:Int}{L:List Tok}{g:G}{gs:List G}:0<L.length->(cmL L).2≠0->(cmL L).2<L.length->TGs 0 ((cmL L).1.map (fun q=>jm4 L q.1 q.2)) gs->TG 0 0 (L.drop (cmL L).2) g->TG 3 p L (.nd jrs p 0 f_0 [] (gs ++[g]))
inductive TGs:Nat->List (List Tok)->List G->Prop
 |nil {m:Nat}:TGs m [] []
 |cons {m:Nat}{L:List Tok}{r:List (List Tok)}{g:G}{gs:List G}:0<L.length->TG m (jm7 L 0).p L g->TGs m r gs->TGs m (L ::r) (g ::gs)
end
end Go.Proofs.YtlpmpelnhdoboaaGreatDoor
