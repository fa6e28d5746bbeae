/-
  DERIVED. GIVEN WITH THE SEED: THE CARDS: each row of YtnhbcdnmfafbiaaGreatDoorRows.lean that lists a variable, with what it lists TIED to the program's text (the seventh form; the later family's looks); each row that meets fmt, with fmt's text TOLD by the authors' own Lean function (tested against real Go, not proved from fmt's source: count such statements apart). THE CARD IS WHAT COUNTS. Prove the row's statement (the work); the ties are given (YtnhbcdnmfafbiaaGreatDoorTie.lean); close each card by the builder's one call (the guide's Derived/Test/ToyasCard.lean, 'card_holds'). Laid BY PROGRAM, IN A SANDBOX (cutbox-door.mjs). By AI agents, Wed Nov 11 2026. No macro, syntax, notation, axiom, sorry.
-/
import Derived.Test.YtnhbcdnmfafbiaaGreatDoorRows
import GoSem.ClaimSeven
namespace Go.Proofs.YtnhbcdnmfafbiaaGreatDoor
namespace Rows

/-- THE TIED CARD OF 'slimkeep.Shorter'. -/
def shorterCard : Claim7 := { stood := { row := shorterRow, standIns := [], harness := (true, "2b787943a03b2b77a9f1a575a2e5545bd55c9cf6e20d93d2cabbf6bd341f6705"), looks := false }, kinds := [], alts := [], laidByText := true, laidKinds := [.data, .data, .data, .data, .data], laidTests := true, laidLooks := .later }
def ShorterCardSaid : Prop := Claim7.holds Tryz.pinned (.plain (OpenSpec.ofChange shorterSpec)) shorterCard

/-- THE SECOND FORM's CARD OF 'slimkeep.Shorter'. -/
def shorterUptoCard : Claim7 := { stood := { row := shorterUptoRow, standIns := [], harness := (true, "2b787943a03b2b77a9f1a575a2e5545bd55c9cf6e20d93d2cabbf6bd341f6705"), looks := false }, kinds := [], alts := [], laidByText := true, laidKinds := [.data, .data, .data, .data, .data], laidTests := true, laidLooks := .later }
def ShorterUptoCardSaid : Prop := Claim7.holds Tryz.pinned (.plain (OpenSpec.upto shorterSpec)) shorterUptoCard
end Rows
end Go.Proofs.YtnhbcdnmfafbiaaGreatDoor
