/-
  DERIVED. GIVEN WITH THE SEED: THE CARDS: each row of YtjmifcnfnihhnaaGreatDoorRows.lean that lists a variable, with what it lists TIED to the program's text (the seventh form; the later family's looks); each row that meets fmt, with fmt's text TOLD by the authors' own Lean function (tested against real Go, not proved from fmt's source: count such statements apart). THE CARD IS WHAT COUNTS. Prove the row's statement (the work); the ties are given (YtjmifcnfnihhnaaGreatDoorTie.lean); close each card by the builder's one call (the guide's Derived/Test/ToyasCard.lean, 'card_holds'). Laid BY PROGRAM, IN A SANDBOX (cutbox-door.mjs). By AI agents, Wed Nov 11 2026. No macro, syntax, notation, axiom, sorry.
-/
import Derived.Test.YtjmifcnfnihhnaaGreatDoorRows
import GoSem.ClaimSeven
namespace Go.Proofs.YtjmifcnfnihhnaaGreatDoor
namespace Rows

/-- THE TIED CARD OF 'slimkeep.Looped'. -/
def loopedCard : Claim7 := { stood := { row := loopedRow, standIns := [], harness := (true, "ff9ffe2351aabdaf77eb90f77aadca73f7578e1934f8ba8d76314023a78c0f61"), looks := false }, kinds := [], alts := [], laidByText := true, laidKinds := [.data, .data], laidTests := true, laidLooks := .later }
def LoopedCardSaid : Prop := Claim7.holds Tryz.pinned (.plain (OpenSpec.ofChange loopedSpec)) loopedCard

/-- THE SECOND FORM's CARD OF 'slimkeep.Looped'. -/
def loopedUptoCard : Claim7 := { stood := { row := loopedUptoRow, standIns := [], harness := (true, "ff9ffe2351aabdaf77eb90f77aadca73f7578e1934f8ba8d76314023a78c0f61"), looks := false }, kinds := [], alts := [], laidByText := true, laidKinds := [.data, .data], laidTests := true, laidLooks := .later }
def LoopedUptoCardSaid : Prop := Claim7.holds Tryz.pinned (.plain (OpenSpec.upto loopedSpec)) loopedUptoCard
end Rows
end Go.Proofs.YtjmifcnfnihhnaaGreatDoor
