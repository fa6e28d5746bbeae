/-
  DERIVED. GIVEN WITH THE SEED: THE CARDS: each row of YtmkdoejpgkgpbaaDoorRows.lean that lists a variable, with what it lists TIED to the program's text (the seventh form; the later family's looks); each row that meets fmt, with fmt's text TOLD by the authors' own Lean function (tested against real Go, not proved from fmt's source: count such statements apart). THE CARD IS WHAT COUNTS. Prove the row's statement (the work); the ties are given (YtmkdoejpgkgpbaaDoorTie.lean); close each card by the builder's one call (the guide's Derived/Test/ToyasCard.lean, 'card_holds'). Laid BY PROGRAM, IN A SANDBOX (cutbox-door.mjs). By AI agents, Wed Nov 11 2026. No macro, syntax, notation, axiom, sorry.
-/
import Derived.Test.YtmkdoejpgkgpbaaDoorRows
import GoSem.ClaimSeven
namespace Go.Proofs.YtmkdoejpgkgpbaaDoor
namespace Rows

/-- THE TIED CARD OF 'slimlaw.Listed'. -/
def listedCard : Claim7 := { stood := { row := listedRow, standIns := [], harness := (true, "bd12f3ffd60f336019066f7abf440a4977dfbf1a91bd31cc4c58584b26b568b4"), looks := false }, kinds := [], alts := [], laidByText := true, laidKinds := [.data, .data, .data, .data], laidTests := true, laidLooks := .later }
def ListedCardSaid : Prop := Claim7.holds Tryd.pinned (.plain (OpenSpec.ofChange listedSpec)) listedCard

/-- THE TIED CARD OF 'slimlaw.Checked'. -/
def checkedCard : Claim7 := { stood := { row := checkedRow, standIns := [], harness := (true, "bd12f3ffd60f336019066f7abf440a4977dfbf1a91bd31cc4c58584b26b568b4"), looks := false }, kinds := [], alts := [], laidByText := true, laidKinds := [.data], laidTests := true, laidLooks := .later }
def CheckedCardSaid : Prop := Claim7.holds Tryd.pinned (.plain (OpenSpec.ofChange checkedSpec)) checkedCard

/-- THE SECOND FORM's CARD OF 'slimlaw.Listed'. -/
def listedUptoCard : Claim7 := { stood := { row := listedUptoRow, standIns := [], harness := (true, "bd12f3ffd60f336019066f7abf440a4977dfbf1a91bd31cc4c58584b26b568b4"), looks := false }, kinds := [], alts := [], laidByText := true, laidKinds := [.data, .data, .data, .data], laidTests := true, laidLooks := .later }
def ListedUptoCardSaid : Prop := Claim7.holds Tryd.pinned (.plain (OpenSpec.upto listedSpec)) listedUptoCard

/-- THE SECOND FORM's CARD OF 'slimlaw.Checked'. -/
def checkedUptoCard : Claim7 := { stood := { row := checkedUptoRow, standIns := [], harness := (true, "bd12f3ffd60f336019066f7abf440a4977dfbf1a91bd31cc4c58584b26b568b4"), looks := false }, kinds := [], alts := [], laidByText := true, laidKinds := [.data], laidTests := true, laidLooks := .later }
def CheckedUptoCardSaid : Prop := Claim7.holds Tryd.pinned (.plain (OpenSpec.upto checkedSpec)) checkedUptoCard
end Rows
end Go.Proofs.YtmkdoejpgkgpbaaDoor
