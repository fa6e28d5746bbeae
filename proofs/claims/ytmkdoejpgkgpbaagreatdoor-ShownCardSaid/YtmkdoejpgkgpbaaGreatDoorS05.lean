import Derived.Test.YtmkdoejpgkgpbaaGreatDoorS04
set_option linter.unusedVariables false
set_option linter.unusedSimpArgs false
set_option maxHeartbeats 20000000
namespace Go.Proofs.YtmkdoejpgkgpbaaGreatDoor
open Go.RowKit Sl
def RO (w' : World) (b : Nat) (v : Value) (r : List ByteArray) : Prop := w'.ownsRow b 9 1 v r.length (r.map Value.string)
def RP (ks x : ByteArray) (ok : Bool) (r : List ByteArray) (w : World) : Prop :=
 Calls Tryz.prog 114 #[.string x,.string ks] w fun e w' => ∃ v,e = .returned (.tuple #[v,.bool ok]) /\ RO w' w.heap.size v r /\ Below w.heap.size w w'
theorem own_strs' {W : World} {e : TypeId} {b base n : Nat} {cs : Array Value} {xs : List ByteArray} (hb : b = W.heap.size) (hB : base <= W.heap.size) (hl : xs.length <= 1000) (hc : cs = (xs.map Value.string).toArray) (hn : n = xs.length) :
 (W.alloc (.cells cs e)).ownsRow base e 1 (.slice (some ⟨b,0,none⟩) n n) n (xs.map Value.string) := by
 subst hc hn
 exact own_strs W e b base xs hb hB hl
inductive RA (ks : ByteArray) : ByteArray -> Nat -> Nat -> UInt8 -> List UInt8 -> Bool -> List ByteArray -> Prop
 | Expr_0 (_ : (ks.toList == [108,101,116]) = true): RA ks ⟨#[69,120,112,114]⟩ 3 114 113 [69,120,112,113] true [⟨#[108,101,116]⟩,⟨#[76,101,116]⟩]
 | Expr_1 (_ : (ks.toList == [108,101,116]) = false) (_ : (ks.toList == [105,102]) = true): RA ks ⟨#[69,120,112,114]⟩ 3 114 113 [69,120,112,113] true [⟨#[105,102]⟩,⟨#[69,120,112,114]⟩,⟨#[116,104,101,110]⟩,⟨#[69,120,112,114]⟩,⟨#[101,108,115,101]⟩,⟨#[69,120,112,114]⟩]
 | Expr_2 (_ : (ks.toList == [108,101,116]) = false) (_ : (ks.toList == [105,102]) = false) (_ : (ks.toList == [102,117,110]) = true): RA ks ⟨#[69,120,112,114]⟩ 3 114 113 [69,120,112,113] true [⟨#[102,117,110]⟩,⟨#[105,100]⟩,⟨#[80,97,114,97,109,51]⟩,⟨#[45,62]⟩,⟨#[69,120,112,114]⟩]
 | Expr_3 (_ : (ks.toList == [108,101,116]) = false) (_ : (ks.toList == [105,102]) = false) (_ : (ks.toList == [102,117,110]) = false): RA ks ⟨#[69,120,112,114]⟩ 3 114 113 [69,120,112,113] true [⟨#[67,111,109,112,97,114,105,115,111,110]⟩,⟨#[82,101,115,116]⟩]
 | Let_0 (_ : (ks.toList == [114,101,99]) = true): RA ks ⟨#[76,101,116]⟩ 2 116 115 [76,101,115] true [⟨#[114,101,99]⟩,⟨#[105,100]⟩,⟨#[105,100]⟩,⟨#[80,97,114,97,109,51]⟩,⟨#[61]⟩,⟨#[69,120,112,114]⟩,⟨#[105,110]⟩,⟨#[69,120,112,114]⟩]
 | Let_1 (_ : (ks.toList == [114,101,99]) = false) (_ : (ks.toList == [40]) = true): RA ks ⟨#[76,101,116]⟩ 2 116 115 [76,101,115] true [⟨#[40]⟩,⟨#[105,100]⟩,⟨#[44]⟩,⟨#[105,100]⟩,⟨#[78,97,109,101,52]⟩,⟨#[41]⟩,⟨#[61]⟩,⟨#[69,120,112,114]⟩,⟨#[105,110]⟩,⟨#[69,120,112,114]⟩]
 | Let_2 (_ : (ks.toList == [114,101,99]) = false) (_ : (ks.toList == [40]) = false): RA ks ⟨#[76,101,116]⟩ 2 116 115 [76,101,115] true [⟨#[105,100]⟩,⟨#[61]⟩,⟨#[69,120,112,114]⟩,⟨#[105,110]⟩,⟨#[69,120,112,114]⟩]
 | Rest_0 (_ : (ks.toList == [59]) = true): RA ks ⟨#[82,101,115,116]⟩ 3 116 115 [82,101,115,115] true [⟨#[59]⟩,⟨#[69,120,112,114]⟩]
 | Rest_1 (_ : (ks.toList == [59]) = false): RA ks ⟨#[82,101,115,116]⟩ 3 116 115 [82,101,115,115] true []
 | Comparison_0 : RA ks ⟨#[67,111,109,112,97,114,105,115,111,110]⟩ 9 110 109 [67,111,109,112,97,114,105,115,111,109] true [⟨#[83,117,109]⟩,⟨#[67,111,109,112,97,114,101,100]⟩]
 | Compared_0 (_ : cmpS ks = true): RA ks ⟨#[67,111,109,112,97,114,101,100]⟩ 7 100 99 [67,111,109,112,97,114,101,99] true [ks,⟨#[83,117,109]⟩]
 | Compared_1 (_ : cmpS ks = false): RA ks ⟨#[67,111,109,112,97,114,101,100]⟩ 7 100 99 [67,111,109,112,97,114,101,99] true []
 | Sum_0 : RA ks ⟨#[83,117,109]⟩ 2 109 108 [83,117,108] true [⟨#[80,114,111,100,117,99,116]⟩,⟨#[84,101,114,109,115]⟩]
 | Terms_0 (_ : (ks.toList == [43]) = true): RA ks ⟨#[84,101,114,109,115]⟩ 4 115 114 [84,101,114,109,114] true [ks,⟨#[80,114,111,100,117,99,116]⟩,⟨#[84,101,114,109,115]⟩]
 | Terms_1 (_ : (ks.toList == [43]) = false) (_ : (ks.toList == [45]) = true): RA ks ⟨#[84,101,114,109,115]⟩ 4 115 114 [84,101,114,109,114] true [ks,⟨#[80,114,111,100,117,99,116]⟩,⟨#[84,101,114,109,115]⟩]
 | Terms_2 (_ : (ks.toList == [43]) = false) (_ : (ks.toList == [45]) = false): RA ks ⟨#[84,101,114,109,115]⟩ 4 115 114 [84,101,114,109,114] true []
 | Product_0 : RA ks ⟨#[80,114,111,100,117,99,116]⟩ 6 116 115 [80,114,111,100,117,99,115] true [⟨#[83,105,103,110]⟩,⟨#[70,97,99,116,111,114,115]⟩]
 | Factors_0 (_ : (ks.toList == [42]) = true): RA ks ⟨#[70,97,99,116,111,114,115]⟩ 6 115 114 [70,97,99,116,111,114,114] true [ks,⟨#[83,105,103,110]⟩,⟨#[70,97,99,116,111,114,115]⟩]
 | Factors_1 (_ : (ks.toList == [42]) = false) (_ : (ks.toList == [47]) = true): RA ks ⟨#[70,97,99,116,111,114,115]⟩ 6 115 114 [70,97,99,116,111,114,114] true [ks,⟨#[83,105,103,110]⟩,⟨#[70,97,99,116,111,114,115]⟩]
 | Factors_2 (_ : (ks.toList == [42]) = false) (_ : (ks.toList == [47]) = false) (_ : (ks.toList == [37]) = true): RA ks ⟨#[70,97,99,116,111,114,115]⟩ 6 115 114 [70,97,99,116,111,114,114] true [ks,⟨#[83,105,103,110]⟩,⟨#[70,97,99,116,111,114,115]⟩]
 | Factors_3 (_ : (ks.toList == [42]) = false) (_ : (ks.toList == [47]) = false) (_ : (ks.toList == [37]) = false): RA ks ⟨#[70,97,99,116,111,114,115]⟩ 6 115 114 [70,97,99,116,111,114,114] true []
 | Sign_0 (_ : (ks.toList == [45]) = true): RA ks ⟨#[83,105,103,110]⟩ 3 110 109 [83,105,103,109] true [ks,⟨#[83,105,103,110]⟩]
 | Sign_1 (_ : (ks.toList == [45]) = false) (_ : (ks.toList == [110,111,116]) = true): RA ks ⟨#[83,105,103,110]⟩ 3 110 109 [83,105,103,109] true [ks,⟨#[83,105,103,110]⟩]
 | Sign_2 (_ : (ks.toList == [45]) = false) (_ : (ks.toList == [110,111,116]) = false): RA ks ⟨#[83,105,103,110]⟩ 3 110 109 [83,105,103,109] true [⟨#[67,97,108,108]⟩]
 | Call_0 (_ : (ks.toList == [112,114,105,110,116]) = true): RA ks ⟨#[67,97,108,108]⟩ 3 108 107 [67,97,108,107] true [ks,⟨#[79,112,101,114,97,110,100]⟩]
 | Call_1 (_ : (ks.toList == [112,114,105,110,116]) = false) (_ : (ks.toList == [108,101,110]) = true): RA ks ⟨#[67,97,108,108]⟩ 3 108 107 [67,97,108,107] true [ks,⟨#[79,112,101,114,97,110,100]⟩]
 | Call_2 (_ : (ks.toList == [112,114,105,110,116]) = false) (_ : (ks.toList == [108,101,110]) = false) (_ : (ks.toList == [97,114,114,97,121]) = true): RA ks ⟨#[67,97,108,108]⟩ 3 108 107 [67,97,108,107] true [ks,⟨#[79,112,101,114,97,110,100]⟩,⟨#[79,112,101,114,97,110,100]⟩]
 | Call_3 (_ : (ks.toList == [112,114,105,110,116]) = false) (_ : (ks.toList == [108,101,110]) = false) (_ : (ks.toList == [97,114,114,97,121]) = false) (_ : (ks.toList == [112,117,116]) = true): RA ks ⟨#[67,97,108,108]⟩ 3 108 107 [67,97,108,107] true [ks,⟨#[79,112,101,114,97,110,100]⟩,⟨#[79,112,101,114,97,110,100]⟩,⟨#[79,112,101,114,97,110,100]⟩]
 | Call_4 (_ : (ks.toList == [112,114,105,110,116]) = false) (_ : (ks.toList == [108,101,110]) = false) (_ : (ks.toList == [97,114,114,97,121]) = false) (_ : (ks.toList == [112,117,116]) = false): RA ks ⟨#[67,97,108,108]⟩ 3 108 107 [67,97,108,107] true [⟨#[79,112,101,114,97,110,100]⟩,⟨#[65,114,103,117,109,101,110,116,52]⟩]
 | Operand_0 : RA ks ⟨#[79,112,101,114,97,110,100]⟩ 6 100 99 [79,112,101,114,97,110,99] true [⟨#[65,116,111,109]⟩,⟨#[73,110,100,101,120]⟩]
theorem ra_facts {ks x : ByteArray} {n v : Nat} {u : UInt8} {l : List UInt8} {ok : Bool} {r : List ByteArray} (h : RA ks x n v u l ok r) :
 (∃ hl : n < x.size,x[n].toNat = v) /\ (x.extract 0 n).toList = l.dropLast /\ x.size = n + 1 /\ l = x.data.toList.take n ++ [u] := by
 cases h <;> exact ⟨⟨by decide,rfl⟩,by rw [ByteArray.toList_eq];rfl,rfl,rfl⟩
set_option maxRecDepth 100000 in
theorem ra {ks x : ByteArray} {n v : Nat} {u : UInt8} {l : List UInt8} {ok : Bool} {r : List ByteArray} (h : RA ks x n v u l ok r) (w : World) : RP ks x ok r w := by
 obtain ⟨⟨hlt,hl⟩,hmany,hsz,hset⟩ := ra_facts h
 have HLT : Hid (n < x.size) := hlt
 have HN : Hid (x.size = n + 1) := hsz
 have HL : Hid (l = x.data.toList.take n ++ [u]) := hset
 clear hsz hset
 have hb : Below w.heap.size w w := Below.refl _ _
 unfold RP
 cases h
 all_goals dsimp only [List.dropLast] at hmany
 all_goals (
  go_enter Tryz.func114,Tryz.ntmps114
  go_wp2_with (first
   | (go_at_call 184;refine (compares_any _ _).mono ?_;rintro e w' ⟨rfl,hw'⟩;subst hw')
   | (go_at_call 185;refine (atomic_any _ _).mono ?_;rintro e w' ⟨rfl,hw'⟩;subst hw')
   | (refine wpList_bytes_of _ rfl (.tmp 24) 9 182 5 rfl _ rfl Tryz.underlying9 Tryz.underlying182 Tryz.underlying5 ?_;intro w1 cap hc1 hf1 hb1 hz1;have hc3 := hc1 _ HLT.out;have hf3 := hf1 _ HLT.out;have HC := set_cells _ _ HN.out hc1 HL.out;have HC : Hid _ := HC;clear hc1 hf1)
   | (refine wpList_string_of _ rfl (.tmp 33) 182 9 5 rfl _ _ _ _ rfl ?_ Tryz.underlying182 Tryz.underlying5 Tryz.underlying9 HC.out ?_;rfl;clear HC hc3 hf3))
  all_goals go_ret2
  all_goals
   refine ⟨_,rfl,?_,?_⟩
   ·unfold RO
    first
     | exact World.ownsRow_nil _ _ _ _
     | exact own_strs' (by rw [World.size_setCell];omega) (by rw [World.size_setCell];omega) (by simp) rfl rfl
   ·first
     | exact hb1.setCell (Nat.le_refl _) _
     | exact (hb1.setCell (Nat.le_refl _) _).alloc (by rw [World.size_setCell];omega) _)
end Go.Proofs.YtmkdoejpgkgpbaaGreatDoor
