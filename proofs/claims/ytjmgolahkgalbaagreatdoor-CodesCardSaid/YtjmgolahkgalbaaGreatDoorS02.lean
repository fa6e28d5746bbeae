import Derived.Test.YtjmgolahkgalbaaGreatDoorS01
set_option linter.unusedVariables false
set_option linter.unusedSimpArgs false
set_option maxHeartbeats 20000000
namespace Go.Proofs.YtjmgolahkgalbaaGreatDoor
namespace Li
open Go.RowKit
def rul : List (List Nat) := [[],[1,3,0,0],[1,1,0,0],[1,2,0,0],[1,2,0,0],[1,2,0,0],[0,2,0,0],[1,1,1,0],[1,1,1,0],[1,1,1,0],[1,1,1,7],[1,1,1,7],[1,1,1,0],[1,1,1,0],[1,1,1,0],[1,1,0,0],[1,1,0,0],[0,5,0,0],[1,5,0,0],[1,7,0,0],[1,7,4,0],[1,7,1,0],[1,1,7,0],[1,1,1,7],[1,1,1,7],[1,1,1,7],[1,1,0,0],[1,0,0,7],[1,0,0,7],[0,4,0,0],[0,6,0,0],[0,4,0,0],[0,6,0,0],[0,0,0,0]]
theorem jmz : rul.length = 34 := by decide
def ltr (r : Nat) : Nat := [48,114,115,107,102,108,97,42].getD r 48
def jo (F N : Nat) (v rule pc slots end' : Nat) : Bool :=
 if rule = 0 then v == 0 else if rule = 1 then decide (v < 8) else if rule = 2 then decide (v < slots) else if rule = 3 then decide (v < N) else if rule = 4 then decide (v < F)
 else if rule = 5 then decide (pc < v) && decide (v < end') else if rule = 6 then decide (v <= 4) else true
def jx (op : Nat) : Bool := op == 17 || (op == 31 || (op == 32 || op == 33))
end Li
end Go.Proofs.YtjmgolahkgalbaaGreatDoor
