import Derived.Test.YtmkdoejpgkgpbaaGreatDoorS05
set_option linter.unusedVariables false
set_option linter.unusedSimpArgs false
set_option maxHeartbeats 20000000
namespace Go.Proofs.YtmkdoejpgkgpbaaGreatDoor
open Go.RowKit Sl
inductive RB (ks : ByteArray) : ByteArray -> Nat -> Nat -> UInt8 -> List UInt8 -> Bool -> List ByteArray -> Prop
 | Index_0 (_ : (ks.toList == [46,40]) = true): RB ks ⟨#[73,110,100,101,120]⟩ 4 120 119 [73,110,100,101,119] true [⟨#[46,40]⟩,⟨#[69,120,112,114]⟩,⟨#[41]⟩,⟨#[73,110,100,101,120]⟩]
 | Index_1 (_ : (ks.toList == [46,40]) = false): RB ks ⟨#[73,110,100,101,120]⟩ 4 120 119 [73,110,100,101,119] true []
 | Atom_0 (_ : (ks.toList == [40]) = true): RB ks ⟨#[65,116,111,109]⟩ 3 109 108 [65,116,111,108] true [⟨#[40]⟩,⟨#[66,114,97,99,107,101,116]⟩]
 | Atom_1 (_ : (ks.toList == [40]) = false) (_ : atoS ks = true): RB ks ⟨#[65,116,111,109]⟩ 3 109 108 [65,116,111,108] true [ks]
 | Atom_2 (_ : (ks.toList == [40]) = false) (_ : atoS ks = false): RB ks ⟨#[65,116,111,109]⟩ 3 109 108 [65,116,111,108] false [ks]
 | Bracket_0 (_ : (ks.toList == [41]) = true): RB ks ⟨#[66,114,97,99,107,101,116]⟩ 6 116 115 [66,114,97,99,107,101,115] true [⟨#[41]⟩]
 | Bracket_1 (_ : (ks.toList == [41]) = false): RB ks ⟨#[66,114,97,99,107,101,116]⟩ 6 116 115 [66,114,97,99,107,101,115] true [⟨#[69,120,112,114]⟩,⟨#[73,116,101,109,53]⟩,⟨#[41]⟩]
 | Param0_0 : RB ks ⟨#[80,97,114,97,109,48]⟩ 5 48 47 [80,97,114,97,109,47] true []
 | Param1_0 (_ : (ks.toList == [105,100]) = true): RB ks ⟨#[80,97,114,97,109,49]⟩ 5 49 48 [80,97,114,97,109,48] true [⟨#[105,100]⟩,⟨#[80,97,114,97,109,48]⟩]
 | Param1_1 (_ : (ks.toList == [105,100]) = false): RB ks ⟨#[80,97,114,97,109,49]⟩ 5 49 48 [80,97,114,97,109,48] true []
 | Param2_0 (_ : (ks.toList == [105,100]) = true): RB ks ⟨#[80,97,114,97,109,50]⟩ 5 50 49 [80,97,114,97,109,49] true [⟨#[105,100]⟩,⟨#[80,97,114,97,109,49]⟩]
 | Param2_1 (_ : (ks.toList == [105,100]) = false): RB ks ⟨#[80,97,114,97,109,50]⟩ 5 50 49 [80,97,114,97,109,49] true []
 | Param3_0 (_ : (ks.toList == [105,100]) = true): RB ks ⟨#[80,97,114,97,109,51]⟩ 5 51 50 [80,97,114,97,109,50] true [⟨#[105,100]⟩,⟨#[80,97,114,97,109,50]⟩]
 | Param3_1 (_ : (ks.toList == [105,100]) = false): RB ks ⟨#[80,97,114,97,109,51]⟩ 5 51 50 [80,97,114,97,109,50] true []
 | Name0_0 : RB ks ⟨#[78,97,109,101,48]⟩ 4 48 47 [78,97,109,101,47] true []
 | Name1_0 (_ : (ks.toList == [44]) = true): RB ks ⟨#[78,97,109,101,49]⟩ 4 49 48 [78,97,109,101,48] true [⟨#[44]⟩,⟨#[105,100]⟩,⟨#[78,97,109,101,48]⟩]
 | Name1_1 (_ : (ks.toList == [44]) = false): RB ks ⟨#[78,97,109,101,49]⟩ 4 49 48 [78,97,109,101,48] true []
 | Name2_0 (_ : (ks.toList == [44]) = true): RB ks ⟨#[78,97,109,101,50]⟩ 4 50 49 [78,97,109,101,49] true [⟨#[44]⟩,⟨#[105,100]⟩,⟨#[78,97,109,101,49]⟩]
 | Name2_1 (_ : (ks.toList == [44]) = false): RB ks ⟨#[78,97,109,101,50]⟩ 4 50 49 [78,97,109,101,49] true []
 | Name3_0 (_ : (ks.toList == [44]) = true): RB ks ⟨#[78,97,109,101,51]⟩ 4 51 50 [78,97,109,101,50] true [⟨#[44]⟩,⟨#[105,100]⟩,⟨#[78,97,109,101,50]⟩]
 | Name3_1 (_ : (ks.toList == [44]) = false): RB ks ⟨#[78,97,109,101,51]⟩ 4 51 50 [78,97,109,101,50] true []
 | Name4_0 (_ : (ks.toList == [44]) = true): RB ks ⟨#[78,97,109,101,52]⟩ 4 52 51 [78,97,109,101,51] true [⟨#[44]⟩,⟨#[105,100]⟩,⟨#[78,97,109,101,51]⟩]
 | Name4_1 (_ : (ks.toList == [44]) = false): RB ks ⟨#[78,97,109,101,52]⟩ 4 52 51 [78,97,109,101,51] true []
 | Argument0_0 : RB ks ⟨#[65,114,103,117,109,101,110,116,48]⟩ 8 48 47 [65,114,103,117,109,101,110,116,47] true []
theorem rb_facts {ks x : ByteArray} {n v : Nat} {u : UInt8} {l : List UInt8} {ok : Bool} {r : List ByteArray} (h : RB ks x n v u l ok r) :
 (∃ hl : n < x.size,x[n].toNat = v) /\ (x.extract 0 n).toList = l.dropLast /\ x.size = n + 1 /\ l = x.data.toList.take n ++ [u] := by
 cases h <;> exact ⟨⟨by decide,rfl⟩,by rw [ByteArray.toList_eq];rfl,rfl,rfl⟩
set_option maxRecDepth 100000 in
theorem rb {ks x : ByteArray} {n v : Nat} {u : UInt8} {l : List UInt8} {ok : Bool} {r : List ByteArray} (h : RB ks x n v u l ok r) (w : World) : RP ks x ok r w := by
 obtain ⟨⟨hlt,hl⟩,hmany,hsz,hset⟩ := rb_facts h
 have HLT : Hid (n < x.size) := hlt
 have HN : Hid (x.size = n + 1) := hsz
 have HL : Hid (l = x.data.toList.take n ++ [u]) := hset
 clear hsz hset
 have hb : Below w.heap.size w w := Below.refl _ _
 unfold RP
 cases h
 all_goals dsimp only [List.dropLast] at hmany
 all_goals (
  go_enter Tryz.func114,Tryz.ntmps114
  go_wp2_with (first
   | (go_at_call 184;refine (compares_any _ _).mono ?_;rintro e w' ⟨rfl,hw'⟩;subst hw')
   | (go_at_call 185;refine (atomic_any _ _).mono ?_;rintro e w' ⟨rfl,hw'⟩;subst hw')
   | (refine wpList_bytes_of _ rfl (.tmp 24) 9 182 5 rfl _ rfl Tryz.underlying9 Tryz.underlying182 Tryz.underlying5 ?_;intro w1 cap hc1 hf1 hb1 hz1;have hc3 := hc1 _ HLT.out;have hf3 := hf1 _ HLT.out;have HC := set_cells _ _ HN.out hc1 HL.out;have HC : Hid _ := HC;clear hc1 hf1)
   | (refine wpList_string_of _ rfl (.tmp 33) 182 9 5 rfl _ _ _ _ rfl ?_ Tryz.underlying182 Tryz.underlying5 Tryz.underlying9 HC.out ?_;rfl;clear HC hc3 hf3))
  all_goals go_ret2
  all_goals
   refine ⟨_,rfl,?_,?_⟩
   ·unfold RO
    first
     | exact World.ownsRow_nil _ _ _ _
     | exact own_strs' (by rw [World.size_setCell];omega) (by rw [World.size_setCell];omega) (by simp) rfl rfl
   ·first
     | exact hb1.setCell (Nat.le_refl _) _
     | exact (hb1.setCell (Nat.le_refl _) _).alloc (by rw [World.size_setCell];omega) _)
end Go.Proofs.YtmkdoejpgkgpbaaGreatDoor
