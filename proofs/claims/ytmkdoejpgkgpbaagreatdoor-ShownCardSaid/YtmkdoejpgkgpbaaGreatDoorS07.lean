import Derived.Test.YtmkdoejpgkgpbaaGreatDoorS05
set_option linter.unusedVariables false
set_option linter.unusedSimpArgs false
set_option maxHeartbeats 20000000
namespace Go.Proofs.YtmkdoejpgkgpbaaGreatDoor
open Go.RowKit Sl
inductive RC (ks : ByteArray) : ByteArray -> Nat -> Nat -> UInt8 -> List UInt8 -> Bool -> List ByteArray -> Prop
 | Argument1_0 (_ : atoS ks = true): RC ks ⟨#[65,114,103,117,109,101,110,116,49]⟩ 8 49 48 [65,114,103,117,109,101,110,116,48] true [⟨#[79,112,101,114,97,110,100]⟩,⟨#[65,114,103,117,109,101,110,116,48]⟩]
 | Argument1_1 (_ : atoS ks = false) (_ : (ks.toList == [40]) = true): RC ks ⟨#[65,114,103,117,109,101,110,116,49]⟩ 8 49 48 [65,114,103,117,109,101,110,116,48] true [⟨#[79,112,101,114,97,110,100]⟩,⟨#[65,114,103,117,109,101,110,116,48]⟩]
 | Argument1_2 (_ : atoS ks = false) (_ : (ks.toList == [40]) = false): RC ks ⟨#[65,114,103,117,109,101,110,116,49]⟩ 8 49 48 [65,114,103,117,109,101,110,116,48] true []
 | Argument2_0 (_ : atoS ks = true): RC ks ⟨#[65,114,103,117,109,101,110,116,50]⟩ 8 50 49 [65,114,103,117,109,101,110,116,49] true [⟨#[79,112,101,114,97,110,100]⟩,⟨#[65,114,103,117,109,101,110,116,49]⟩]
 | Argument2_1 (_ : atoS ks = false) (_ : (ks.toList == [40]) = true): RC ks ⟨#[65,114,103,117,109,101,110,116,50]⟩ 8 50 49 [65,114,103,117,109,101,110,116,49] true [⟨#[79,112,101,114,97,110,100]⟩,⟨#[65,114,103,117,109,101,110,116,49]⟩]
 | Argument2_2 (_ : atoS ks = false) (_ : (ks.toList == [40]) = false): RC ks ⟨#[65,114,103,117,109,101,110,116,50]⟩ 8 50 49 [65,114,103,117,109,101,110,116,49] true []
 | Argument3_0 (_ : atoS ks = true): RC ks ⟨#[65,114,103,117,109,101,110,116,51]⟩ 8 51 50 [65,114,103,117,109,101,110,116,50] true [⟨#[79,112,101,114,97,110,100]⟩,⟨#[65,114,103,117,109,101,110,116,50]⟩]
 | Argument3_1 (_ : atoS ks = false) (_ : (ks.toList == [40]) = true): RC ks ⟨#[65,114,103,117,109,101,110,116,51]⟩ 8 51 50 [65,114,103,117,109,101,110,116,50] true [⟨#[79,112,101,114,97,110,100]⟩,⟨#[65,114,103,117,109,101,110,116,50]⟩]
 | Argument3_2 (_ : atoS ks = false) (_ : (ks.toList == [40]) = false): RC ks ⟨#[65,114,103,117,109,101,110,116,51]⟩ 8 51 50 [65,114,103,117,109,101,110,116,50] true []
 | Argument4_0 (_ : atoS ks = true): RC ks ⟨#[65,114,103,117,109,101,110,116,52]⟩ 8 52 51 [65,114,103,117,109,101,110,116,51] true [⟨#[79,112,101,114,97,110,100]⟩,⟨#[65,114,103,117,109,101,110,116,51]⟩]
 | Argument4_1 (_ : atoS ks = false) (_ : (ks.toList == [40]) = true): RC ks ⟨#[65,114,103,117,109,101,110,116,52]⟩ 8 52 51 [65,114,103,117,109,101,110,116,51] true [⟨#[79,112,101,114,97,110,100]⟩,⟨#[65,114,103,117,109,101,110,116,51]⟩]
 | Argument4_2 (_ : atoS ks = false) (_ : (ks.toList == [40]) = false): RC ks ⟨#[65,114,103,117,109,101,110,116,52]⟩ 8 52 51 [65,114,103,117,109,101,110,116,51] true []
 | Item0_0 : RC ks ⟨#[73,116,101,109,48]⟩ 4 48 47 [73,116,101,109,47] true []
 | Item1_0 (_ : (ks.toList == [44]) = true): RC ks ⟨#[73,116,101,109,49]⟩ 4 49 48 [73,116,101,109,48] true [⟨#[44]⟩,⟨#[69,120,112,114]⟩,⟨#[73,116,101,109,48]⟩]
 | Item1_1 (_ : (ks.toList == [44]) = false): RC ks ⟨#[73,116,101,109,49]⟩ 4 49 48 [73,116,101,109,48] true []
 | Item2_0 (_ : (ks.toList == [44]) = true): RC ks ⟨#[73,116,101,109,50]⟩ 4 50 49 [73,116,101,109,49] true [⟨#[44]⟩,⟨#[69,120,112,114]⟩,⟨#[73,116,101,109,49]⟩]
 | Item2_1 (_ : (ks.toList == [44]) = false): RC ks ⟨#[73,116,101,109,50]⟩ 4 50 49 [73,116,101,109,49] true []
 | Item3_0 (_ : (ks.toList == [44]) = true): RC ks ⟨#[73,116,101,109,51]⟩ 4 51 50 [73,116,101,109,50] true [⟨#[44]⟩,⟨#[69,120,112,114]⟩,⟨#[73,116,101,109,50]⟩]
 | Item3_1 (_ : (ks.toList == [44]) = false): RC ks ⟨#[73,116,101,109,51]⟩ 4 51 50 [73,116,101,109,50] true []
 | Item4_0 (_ : (ks.toList == [44]) = true): RC ks ⟨#[73,116,101,109,52]⟩ 4 52 51 [73,116,101,109,51] true [⟨#[44]⟩,⟨#[69,120,112,114]⟩,⟨#[73,116,101,109,51]⟩]
 | Item4_1 (_ : (ks.toList == [44]) = false): RC ks ⟨#[73,116,101,109,52]⟩ 4 52 51 [73,116,101,109,51] true []
 | Item5_0 (_ : (ks.toList == [44]) = true): RC ks ⟨#[73,116,101,109,53]⟩ 4 53 52 [73,116,101,109,52] true [⟨#[44]⟩,⟨#[69,120,112,114]⟩,⟨#[73,116,101,109,52]⟩]
 | Item5_1 (_ : (ks.toList == [44]) = false): RC ks ⟨#[73,116,101,109,53]⟩ 4 53 52 [73,116,101,109,52] true []
theorem rc_facts {ks x : ByteArray} {n v : Nat} {u : UInt8} {l : List UInt8} {ok : Bool} {r : List ByteArray} (h : RC ks x n v u l ok r) :
 (∃ hl : n < x.size,x[n].toNat = v) /\ (x.extract 0 n).toList = l.dropLast /\ x.size = n + 1 /\ l = x.data.toList.take n ++ [u] := by
 cases h <;> exact ⟨⟨by decide,rfl⟩,by rw [ByteArray.toList_eq];rfl,rfl,rfl⟩
set_option maxRecDepth 100000 in
theorem rc {ks x : ByteArray} {n v : Nat} {u : UInt8} {l : List UInt8} {ok : Bool} {r : List ByteArray} (h : RC ks x n v u l ok r) (w : World) : RP ks x ok r w := by
 obtain ⟨⟨hlt,hl⟩,hmany,hsz,hset⟩ := rc_facts h
 have HLT : Hid (n < x.size) := hlt
 have HN : Hid (x.size = n + 1) := hsz
 have HL : Hid (l = x.data.toList.take n ++ [u]) := hset
 clear hsz hset
 have hb : Below w.heap.size w w := Below.refl _ _
 unfold RP
 cases h
 all_goals dsimp only [List.dropLast] at hmany
 all_goals (
  go_enter Tryz.func114,Tryz.ntmps114
  go_wp2_with (first
   | (go_at_call 184;refine (compares_any _ _).mono ?_;rintro e w' ⟨rfl,hw'⟩;subst hw')
   | (go_at_call 185;refine (atomic_any _ _).mono ?_;rintro e w' ⟨rfl,hw'⟩;subst hw')
   | (refine wpList_bytes_of _ rfl (.tmp 24) 9 182 5 rfl _ rfl Tryz.underlying9 Tryz.underlying182 Tryz.underlying5 ?_;intro w1 cap hc1 hf1 hb1 hz1;have hc3 := hc1 _ HLT.out;have hf3 := hf1 _ HLT.out;have HC := set_cells _ _ HN.out hc1 HL.out;have HC : Hid _ := HC;clear hc1 hf1)
   | (refine wpList_string_of _ rfl (.tmp 33) 182 9 5 rfl _ _ _ _ rfl ?_ Tryz.underlying182 Tryz.underlying5 Tryz.underlying9 HC.out ?_;rfl;clear HC hc3 hf3))
  all_goals go_ret2
  all_goals
   refine ⟨_,rfl,?_,?_⟩
   ·unfold RO
    first
     | exact World.ownsRow_nil _ _ _ _
     | exact own_strs' (by rw [World.size_setCell];omega) (by rw [World.size_setCell];omega) (by simp) rfl rfl
   ·first
     | exact hb1.setCell (Nat.le_refl _) _
     | exact (hb1.setCell (Nat.le_refl _) _).alloc (by rw [World.size_setCell];omega) _)
end Go.Proofs.YtmkdoejpgkgpbaaGreatDoor
