/-
  DERIVED. GIVEN WITH THE SEED: THE CARDS: each row of YtlpmpelnhdoboaaGreatDoorRows.lean that lists a variable, with what it lists TIED to the program's text (the seventh form; the later family's looks); each row that meets fmt, with fmt's text TOLD by the authors' own Lean function (tested against real Go, not proved from fmt's source: count such statements apart). THE CARD IS WHAT COUNTS. Prove the row's statement (the work); the ties are given (YtlpmpelnhdoboaaGreatDoorTie.lean); close each card by the builder's one call (the guide's Derived/Test/ToyasCard.lean, 'card_holds'). Laid BY PROGRAM, IN A SANDBOX (cutbox-door.mjs). By AI agents, Wed Nov 11 2026. No macro, syntax, notation, axiom, sorry.
-/
import Derived.Test.YtlpmpelnhdoboaaGreatDoorRows
import GoSem.ClaimSeven
namespace Go.Proofs.YtlpmpelnhdoboaaGreatDoor
namespace Rows

/-- THE TIED CARD OF 'slimlaw.Inferred'. -/
def inferredCard : Claim7 := { stood := { row := inferredRow, standIns := [], harness := (true, "66f76a0b25516a3cc5f85c27001535657273ccecb244f71ad066bfbca2d63b98"), looks := false }, kinds := [], alts := [], laidByText := true, laidKinds := [.data], laidTests := true, laidLooks := .later }
def InferredCardSaid : Prop := Claim7.holds Tryz.pinned (.plain (OpenSpec.ofChange inferredSpec)) inferredCard

/-- THE SECOND FORM's CARD OF 'slimlaw.Inferred'. -/
def inferredUptoCard : Claim7 := { stood := { row := inferredUptoRow, standIns := [], harness := (true, "66f76a0b25516a3cc5f85c27001535657273ccecb244f71ad066bfbca2d63b98"), looks := false }, kinds := [], alts := [], laidByText := true, laidKinds := [.data], laidTests := true, laidLooks := .later }
def InferredUptoCardSaid : Prop := Claim7.holds Tryz.pinned (.plain (OpenSpec.upto inferredSpec)) inferredUptoCard
end Rows
end Go.Proofs.YtlpmpelnhdoboaaGreatDoor
