/-
  DERIVED. GIVEN WITH THE SEED: THE CARDS: each row of YtmkdoejpgkgpbaaGreatDoorRows.lean that lists a variable, with what it lists TIED to the program's text (the seventh form; the later family's looks); each row that meets fmt, with fmt's text TOLD by the authors' own Lean function (tested against real Go, not proved from fmt's source: count such statements apart). THE CARD IS WHAT COUNTS. Prove the row's statement (the work); the ties are given (YtmkdoejpgkgpbaaGreatDoorTie.lean); close each card by the builder's one call (the guide's Derived/Test/ToyasCard.lean, 'card_holds'). Laid BY PROGRAM, IN A SANDBOX (cutbox-door.mjs). By AI agents, Wed Nov 11 2026. No macro, syntax, notation, axiom, sorry.
-/
import Derived.Test.YtmkdoejpgkgpbaaGreatDoorRows
import GoSem.ClaimSeven
namespace Go.Proofs.YtmkdoejpgkgpbaaGreatDoor
namespace Rows

/-- THE TIED CARD OF 'slimlaw.Shown'. -/
def shownCard : Claim7 := { stood := { row := shownRow, standIns := [], harness := (true, "b60dbb257f34ef3c3dbada3f97879d3e148413aecf3b68f05db85ca1285e83a3"), looks := false }, kinds := [], alts := [], laidByText := true, laidKinds := [.data, .data, .data, .data], laidTests := true, laidLooks := .later }
def ShownCardSaid : Prop := Claim7.holds Tryz.pinned (.plain (OpenSpec.ofChange shownSpec)) shownCard

/-- THE TIED CARD OF 'slimlaw.Inferred'. -/
def inferredCard : Claim7 := { stood := { row := inferredRow, standIns := [], harness := (true, "b60dbb257f34ef3c3dbada3f97879d3e148413aecf3b68f05db85ca1285e83a3"), looks := false }, kinds := [], alts := [], laidByText := true, laidKinds := [.data], laidTests := true, laidLooks := .later }
def InferredCardSaid : Prop := Claim7.holds Tryz.pinned (.plain (OpenSpec.ofChange inferredSpec)) inferredCard

/-- THE TIED CARD OF 'slimlaw.Codes'. -/
def codesCard : Claim7 := { stood := { row := codesRow, standIns := [], harness := (true, "b60dbb257f34ef3c3dbada3f97879d3e148413aecf3b68f05db85ca1285e83a3"), looks := false }, kinds := [], alts := [], laidByText := true, laidKinds := [.data], laidTests := true, laidLooks := .later }
def CodesCardSaid : Prop := Claim7.holds Tryz.pinned (.plain (OpenSpec.ofChange codesSpec)) codesCard

/-- THE TIED CARD OF 'slimlaw.Compiles'. -/
def compilesCard : Claim7 := { stood := { row := compilesRow, standIns := [], harness := (true, "b60dbb257f34ef3c3dbada3f97879d3e148413aecf3b68f05db85ca1285e83a3"), looks := false }, kinds := [], alts := [], laidByText := true, laidKinds := [.data], laidTests := true, laidLooks := .later }
def CompilesCardSaid : Prop := Claim7.holds Tryz.pinned (.plain (OpenSpec.ofChange compilesSpec)) compilesCard

/-- THE TIED CARD OF 'slimlaw.Runs'. -/
def runsCard : Claim7 := { stood := { row := runsRow, standIns := [], harness := (true, "b60dbb257f34ef3c3dbada3f97879d3e148413aecf3b68f05db85ca1285e83a3"), looks := false }, kinds := [], alts := [], laidByText := true, laidKinds := [.data, .data], laidTests := true, laidLooks := .later }
def RunsCardSaid : Prop := Claim7.holds Tryz.pinned (.plain (OpenSpec.ofChange runsSpec)) runsCard

/-- THE TIED CARD OF 'slimkeep.Shorter'. -/
def shorterCard : Claim7 := { stood := { row := shorterRow, standIns := [], harness := (true, "b60dbb257f34ef3c3dbada3f97879d3e148413aecf3b68f05db85ca1285e83a3"), looks := false }, kinds := [], alts := [], laidByText := true, laidKinds := [.data, .data, .data, .data, .data], laidTests := true, laidLooks := .later }
def ShorterCardSaid : Prop := Claim7.holds Tryz.pinned (.plain (OpenSpec.ofChange shorterSpec)) shorterCard

/-- THE TIED CARD OF 'slimkeep.Ran'. -/
def ranCard : Claim7 := { stood := { row := ranRow, standIns := [], harness := (true, "b60dbb257f34ef3c3dbada3f97879d3e148413aecf3b68f05db85ca1285e83a3"), looks := false }, kinds := [], alts := [], laidByText := true, laidKinds := [.data, .data, .data, .data, .data, .data], laidTests := true, laidLooks := .later }
def RanCardSaid : Prop := Claim7.holds Tryz.pinned (.plain (OpenSpec.ofChange ranSpec)) ranCard

/-- THE TIED CARD OF 'slimkeep.Looped'. -/
def loopedCard : Claim7 := { stood := { row := loopedRow, standIns := [], harness := (true, "b60dbb257f34ef3c3dbada3f97879d3e148413aecf3b68f05db85ca1285e83a3"), looks := false }, kinds := [], alts := [], laidByText := true, laidKinds := [.data, .data], laidTests := true, laidLooks := .later }
def LoopedCardSaid : Prop := Claim7.holds Tryz.pinned (.plain (OpenSpec.ofChange loopedSpec)) loopedCard

/-- THE TIED CARD OF 'slimkeep.Known'. -/
def knownCard : Claim7 := { stood := { row := knownRow, standIns := [], harness := (true, "b60dbb257f34ef3c3dbada3f97879d3e148413aecf3b68f05db85ca1285e83a3"), looks := false }, kinds := [], alts := [], laidByText := true, laidKinds := [.data], laidTests := true, laidLooks := .later }
def KnownCardSaid : Prop := Claim7.holds Tryz.pinned (.plain (OpenSpec.ofChange knownSpec)) knownCard

/-- THE TIED CARD OF 'slimlaw.All'. -/
def allCard : Claim7 := { stood := { row := allRow, standIns := [], harness := (true, "b60dbb257f34ef3c3dbada3f97879d3e148413aecf3b68f05db85ca1285e83a3"), looks := false }, kinds := [], alts := [], laidByText := true, laidKinds := [.data, .data, .data, .data, .data, .data], laidTests := true, laidLooks := .later }
def AllCardSaid : Prop := Claim7.holds Tryz.pinned (.plain (OpenSpec.ofChange allSpec)) allCard

/-- THE SECOND FORM's CARD OF 'slimlaw.Shown'. -/
def shownUptoCard : Claim7 := { stood := { row := shownUptoRow, standIns := [], harness := (true, "b60dbb257f34ef3c3dbada3f97879d3e148413aecf3b68f05db85ca1285e83a3"), looks := false }, kinds := [], alts := [], laidByText := true, laidKinds := [.data, .data, .data, .data], laidTests := true, laidLooks := .later }
def ShownUptoCardSaid : Prop := Claim7.holds Tryz.pinned (.plain (OpenSpec.upto shownSpec)) shownUptoCard

/-- THE SECOND FORM's CARD OF 'slimlaw.Inferred'. -/
def inferredUptoCard : Claim7 := { stood := { row := inferredUptoRow, standIns := [], harness := (true, "b60dbb257f34ef3c3dbada3f97879d3e148413aecf3b68f05db85ca1285e83a3"), looks := false }, kinds := [], alts := [], laidByText := true, laidKinds := [.data], laidTests := true, laidLooks := .later }
def InferredUptoCardSaid : Prop := Claim7.holds Tryz.pinned (.plain (OpenSpec.upto inferredSpec)) inferredUptoCard

/-- THE SECOND FORM's CARD OF 'slimlaw.Codes'. -/
def codesUptoCard : Claim7 := { stood := { row := codesUptoRow, standIns := [], harness := (true, "b60dbb257f34ef3c3dbada3f97879d3e148413aecf3b68f05db85ca1285e83a3"), looks := false }, kinds := [], alts := [], laidByText := true, laidKinds := [.data], laidTests := true, laidLooks := .later }
def CodesUptoCardSaid : Prop := Claim7.holds Tryz.pinned (.plain (OpenSpec.upto codesSpec)) codesUptoCard

/-- THE SECOND FORM's CARD OF 'slimlaw.Compiles'. -/
def compilesUptoCard : Claim7 := { stood := { row := compilesUptoRow, standIns := [], harness := (true, "b60dbb257f34ef3c3dbada3f97879d3e148413aecf3b68f05db85ca1285e83a3"), looks := false }, kinds := [], alts := [], laidByText := true, laidKinds := [.data], laidTests := true, laidLooks := .later }
def CompilesUptoCardSaid : Prop := Claim7.holds Tryz.pinned (.plain (OpenSpec.upto compilesSpec)) compilesUptoCard

/-- THE SECOND FORM's CARD OF 'slimlaw.Runs'. -/
def runsUptoCard : Claim7 := { stood := { row := runsUptoRow, standIns := [], harness := (true, "b60dbb257f34ef3c3dbada3f97879d3e148413aecf3b68f05db85ca1285e83a3"), looks := false }, kinds := [], alts := [], laidByText := true, laidKinds := [.data, .data], laidTests := true, laidLooks := .later }
def RunsUptoCardSaid : Prop := Claim7.holds Tryz.pinned (.plain (OpenSpec.upto runsSpec)) runsUptoCard

/-- THE SECOND FORM's CARD OF 'slimkeep.Shorter'. -/
def shorterUptoCard : Claim7 := { stood := { row := shorterUptoRow, standIns := [], harness := (true, "b60dbb257f34ef3c3dbada3f97879d3e148413aecf3b68f05db85ca1285e83a3"), looks := false }, kinds := [], alts := [], laidByText := true, laidKinds := [.data, .data, .data, .data, .data], laidTests := true, laidLooks := .later }
def ShorterUptoCardSaid : Prop := Claim7.holds Tryz.pinned (.plain (OpenSpec.upto shorterSpec)) shorterUptoCard

/-- THE SECOND FORM's CARD OF 'slimkeep.Ran'. -/
def ranUptoCard : Claim7 := { stood := { row := ranUptoRow, standIns := [], harness := (true, "b60dbb257f34ef3c3dbada3f97879d3e148413aecf3b68f05db85ca1285e83a3"), looks := false }, kinds := [], alts := [], laidByText := true, laidKinds := [.data, .data, .data, .data, .data, .data], laidTests := true, laidLooks := .later }
def RanUptoCardSaid : Prop := Claim7.holds Tryz.pinned (.plain (OpenSpec.upto ranSpec)) ranUptoCard

/-- THE SECOND FORM's CARD OF 'slimkeep.Looped'. -/
def loopedUptoCard : Claim7 := { stood := { row := loopedUptoRow, standIns := [], harness := (true, "b60dbb257f34ef3c3dbada3f97879d3e148413aecf3b68f05db85ca1285e83a3"), looks := false }, kinds := [], alts := [], laidByText := true, laidKinds := [.data, .data], laidTests := true, laidLooks := .later }
def LoopedUptoCardSaid : Prop := Claim7.holds Tryz.pinned (.plain (OpenSpec.upto loopedSpec)) loopedUptoCard

/-- THE SECOND FORM's CARD OF 'slimkeep.Known'. -/
def knownUptoCard : Claim7 := { stood := { row := knownUptoRow, standIns := [], harness := (true, "b60dbb257f34ef3c3dbada3f97879d3e148413aecf3b68f05db85ca1285e83a3"), looks := false }, kinds := [], alts := [], laidByText := true, laidKinds := [.data], laidTests := true, laidLooks := .later }
def KnownUptoCardSaid : Prop := Claim7.holds Tryz.pinned (.plain (OpenSpec.upto knownSpec)) knownUptoCard

/-- THE SECOND FORM's CARD OF 'slimlaw.All'. -/
def allUptoCard : Claim7 := { stood := { row := allUptoRow, standIns := [], harness := (true, "b60dbb257f34ef3c3dbada3f97879d3e148413aecf3b68f05db85ca1285e83a3"), looks := false }, kinds := [], alts := [], laidByText := true, laidKinds := [.data, .data, .data, .data, .data, .data], laidTests := true, laidLooks := .later }
def AllUptoCardSaid : Prop := Claim7.holds Tryz.pinned (.plain (OpenSpec.upto allSpec)) allUptoCard
end Rows
end Go.Proofs.YtmkdoejpgkgpbaaGreatDoor
