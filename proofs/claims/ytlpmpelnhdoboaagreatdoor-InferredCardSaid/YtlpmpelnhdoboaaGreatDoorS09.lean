import Derived.Test.YtlpmpelnhdoboaaGreatDoorS08
set_option linter.unusedVariables false
set_option linter.unusedSimpArgs false
set_option maxHeartbeats 20000000
namespace Go.Proofs.YtlpmpelnhdoboaaGreatDoor
open Go.RowKit Sl
inductive RC (ks:ByteArray):ByteArray->Nat->Nat->UInt8->List UInt8->Bool->List ByteArray->Prop
 |Argument1_0 (_:joZ ks=true):RC ks ⟨#[65,114,103,117,109,101,110,116,49]⟩ 8 49 48 [65,114,103,117,109,101,110,116,48] true [⟨#[79,112,101,114,97,110,100]⟩,⟨#[65,114,103,117,109,101,110,116,48]⟩]
 |Argument1_1 (_:joZ ks=false) (_:(ks.toList == [40])=true):RC ks ⟨#[65,114,103,117,109,101,110,116,49]⟩ 8 49 48 [65,114,103,117,109,101,110,116,48] true [⟨#[79,112,101,114,97,110,100]⟩,⟨#[65,114,103,117,109,101,110,116,48]⟩]
 |Argument1_2 (_:joZ ks=false) (_:(ks.toList == [40])=false):RC ks ⟨#[65,114,103,117,109,101,110,116,49]⟩ 8 49 48 [65,114,103,117,109,101,110,116,48] true []
 |Argument2_0 (_:joZ ks=true):RC ks ⟨#[65,114,103,117,109,101,110,116,50]⟩ 8 50 49 [65,114,103,117,109,101,110,116,49] true [⟨#[79,112,101,114,97,110,100]⟩,⟨#[65,114,103,117,109,101,110,116,49]⟩]
 |Argument2_1 (_:joZ ks=false) (_:(ks.toList == [40])=true):RC ks ⟨#[65,114,103,117,109,101,110,116,50]⟩ 8 50 49 [65,114,103,117,109,101,110,116,49] true [⟨#[79,112,101,114,97,110,100]⟩,⟨#[65,114,103,117,109,101,110,116,49]⟩]
 |Argument2_2 (_:joZ ks=false) (_:(ks.toList == [40])=false):RC ks ⟨#[65,114,103,117,109,101,110,116,50]⟩ 8 50 49 [65,114,103,117,109,101,110,116,49] true []
 |Argument3_0 (_:joZ ks=true):RC ks ⟨#[65,114,103,117,109,101,110,116,51]⟩ 8 51 50 [65,114,103,117,109,101,110,116,50] true [⟨#[79,112,101,114,97,110,100]⟩,⟨#[65,114,103,117,109,101,110,116,50]⟩]
 |Argument3_1 (_:joZ ks=false) (_:(ks.toList == [40])=true):RC ks ⟨#[65,114,103,117,109,101,110,116,51]⟩ 8 51 50 [65,114,103,117,109,101,110,116,50] true [⟨#[79,112,101,114,97,110,100]⟩,⟨#[65,114,103,117,109,101,110,116,50]⟩]
 |Argument3_2 (_:joZ ks=false) (_:(ks.toList == [40])=false):RC ks ⟨#[65,114,103,117,109,101,110,116,51]⟩ 8 51 50 [65,114,103,117,109,101,110,116,50] true []
 |Argument4_0 (_:joZ ks=true):RC ks ⟨#[65,114,103,117,109,101,110,116,52]⟩ 8 52 51 [65,114,103,117,109,101,110,116,51] true [⟨#[79,112,101,114,97,110,100]⟩,⟨#[65,114,103,117,109,101,110,116,51]⟩]
 |Argument4_1 (_:joZ ks=false) (_:(ks.toList == [40])=true):RC ks ⟨#[65,114,103,117,109,101,110,116,52]⟩ 8 52 51 [65,114,103,117,109,101,110,116,51] true [⟨#[79,112,101,114,97,110,100]⟩,⟨#[65,114,103,117,109,101,110,116,51]⟩]
 |Argument4_2 (_:joZ ks=false) (_:(ks.toList == [40])=false):RC ks ⟨#[65,114,103,117,109,101,110,116,52]⟩ 8 52 51 [65,114,103,117,109,101,110,116,51] true []
 |Item0_0:RC ks ⟨#[73,116,101,109,48]⟩ 4 48 47 [73,116,101,109,47] true []
 |Item1_0 (_:(ks.toList == [44])=true):RC ks ⟨#[73,116,101,109,49]⟩ 4 49 48 [73,116,101,109,48] true [⟨#[44]⟩,⟨#[69,120,112,114]⟩,⟨#[73,116,101,109,48]⟩]
 |Item1_1 (_:(ks.toList == [44])=false):RC ks ⟨#[73,116,101,109,49]⟩ 4 49 48 [73,116,101,109,48] true []
 |Item2_0 (_:(ks.toList == [44])=true):RC ks ⟨#[73,116,101,109,50]⟩ 4 50 49 [73,116,101,109,49] true [⟨#[44]⟩,⟨#[69,120,112,114]⟩,⟨#[73,116,101,109,49]⟩]
 |Item2_1 (_:(ks.toList == [44])=false):RC ks ⟨#[73,116,101,109,50]⟩ 4 50 49 [73,116,101,109,49] true []
 |Item3_0 (_:(ks.toList == [44])=true):RC ks ⟨#[73,116,101,109,51]⟩ 4 51 50 [73,116,101,109,50] true [⟨#[44]⟩,⟨#[69,120,112,114]⟩,⟨#[73,116,101,109,50]⟩]
 |Item3_1 (_:(ks.toList == [44])=false):RC ks ⟨#[73,116,101,109,51]⟩ 4 51 50 [73,116,101,109,50] true []
 |Item4_0 (_:(ks.toList == [44])=true):RC ks ⟨#[73,116,101,109,52]⟩ 4 52 51 [73,116,101,109,51] true [⟨#[44]⟩,⟨#[69,120,112,114]⟩,⟨#[73,116,101,109,51]⟩]
 |Item4_1 (_:(ks.toList == [44])=false):RC ks ⟨#[73,116,101,109,52]⟩ 4 52 51 [73,116,101,109,51] true []
 |Item5_0 (_:(ks.toList == [44])=true):RC ks ⟨#[73,116,101,109,53]⟩ 4 53 52 [73,116,101,109,52] true [⟨#[44]⟩,⟨#[69,120,112,114]⟩,⟨#[73,116,101,109,52]⟩]
 |Item5_1 (_:(ks.toList == [44])=false):RC ks ⟨#[73,116,101,109,53]⟩ 4 53 52 [73,116,101,109,52] true []
theorem jDD {ks x:ByteArray}{n v:Nat}{u:UInt8}{l:List UInt8}{ok:Bool}{r:List ByteArray}(h:RC ks x n v u l ok r) :
 (∃hl:n<x.size,x[n].toNat=v)/\(x.extract 0 n).toList=l.dropLast/\x.size=n+1/\l=x.data.toList.take n ++[u]:=by
 cases h <;> exact⟨⟨by decide,rfl⟩,by rw[Ye];rfl,rfl,rfl⟩
set_option maxRecDepth 100000 in
theorem rc {ks x:ByteArray}{n v:Nat}{u:UInt8}{l:List UInt8}{ok:Bool}{r:List ByteArray}(h:RC ks x n v u l ok r) (w:World):RP ks x ok r w:=by
 obtain⟨⟨R,hl⟩,F,H,B⟩:=jDD h;have K:=jH R;have Y:=jH H;have Z:=jH B;clear H B;have hb:Below w.heap.size w w:=jB;unfold RP;cases h
 all_goals dsimp only[List.dropLast]at F
 all_goals (
  go_enter Tryz.func45,Tryz.ntmps45
  go_wp2_with (first
   |(go_at_call 74;refine(jqE _ _).mono ?_;rintro e w' ⟨rfl,A⟩;subst A)
   |(go_at_call 75;refine(jt9 _ _).mono ?_;rintro e w' ⟨rfl,A⟩;subst A)
   |(refine jmu _ rfl (.tmp 24) 9 132 5 rfl _ rfl Tryz.underlying9 Tryz.underlying132 Tryz.underlying5 ?_;intro w1 cap C I O h0;have W:=C _ K.o;have U:=I _ K.o;have E:=jmy _ _ Y.o C Z.o;have E:Hid _:=E;clear C I)
   |(refine jmt _ rfl (.tmp 33) 132 9 5 rfl _ _ _ _ rfl ?_ Tryz.underlying132 Tryz.underlying5 Tryz.underlying9 E.o ?_;rfl;clear E W U))
  all_goals go_ret2
  all_goals
   refine⟨_,rfl,?_,?_⟩
   .unfold RO
    first
     |exact Uk _ _ _ _
     |exact jvp (by rw[World.size_setCell];omega) (by rw[World.size_setCell];omega) (by simp) rfl rfl
   .first
     |exact O.setCell jN _
     |exact(O.setCell jN _).alloc (by rw[World.size_setCell];omega) _)
end Go.Proofs.YtlpmpelnhdoboaaGreatDoor
