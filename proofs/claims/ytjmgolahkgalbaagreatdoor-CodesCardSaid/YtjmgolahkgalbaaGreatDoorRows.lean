/-
  NARROWER THAN 'FOR EVERY INPUT', by the rows' own cells (each row's printed sentence says how): Codes: laid.
  DERIVED. THE GIVEN ROWS OF THIS SEAT. 1 by the template 'for every input the law returns true; each argument reads behind the call as it read before'; 0 by the template 'total and deterministic' (their statements: YtjmgolahkgalbaaGreatDoorTotals.lean).
  GIVEN WITH THE SEED: the statements are not yours to turn. If you find one false, say at which input.
  Laid BY PROGRAM, IN A SANDBOX (cutbox-rows.mjs): the forced cells as the released guide's own fill.sh prints them over the translation fafd992ce630999a… (all of the seat's roots in one cut). By AI agents, Wed Nov 11 2026. No macro, syntax, notation, axiom, sorry.
-/
import Derived.Test.YtjmgolahkgalbaaGreatDoorChecked
import GoSem.Claim
import GoSem.ClaimJoined
import GoSem.ClaimMapViews
import Derived.JoinedTies
import Derived.KernelRfl
namespace Go.Proofs.YtjmgolahkgalbaaGreatDoor
/- THE CELL 'sum', in the pinned program and in every row, IS THE sha256 OF THE DUMP (.gsa) THAT YtjmgolahkgalbaaGreatDoorProg.lean LOADS. Nothing in Lean hashes anything: it is a label: what it is worth is what the hold of that sum in a sandbox is worth. -/
noncomputable def Tryz.pinned : Pinned := { name := "ytjmgolahkgalbaagreatdoor", sum := "fafd992ce630999a76fe27bc1ff56125fdcd104db0e192f2a05e671779709c7f", checked := Tryz.checked }
namespace Rows
def none {H : Type} : Left H := { results := [], args := [] }

/- WHAT THE LISTED PACKAGE-LEVEL VARIABLES READ AS WHEN THE CALL BEGINS. Each datum BY PROGRAM (the guide's laid-datum.mjs) off the statement by which the dump's own 'gosem.cut.vars' lays the variable. In a bare row this is a premise. The card (YtjmgolahkgalbaaGreatDoorCards.lean) ties it to the program's text. -/
def laid_slim_check_fields {H : Type} : DataW H := .agg [.lit (.string []), .lit (.string [114, 107, 48, 48]), .lit (.string [114, 114, 48, 48]), .lit (.string [114, 115, 48, 48]), .lit (.string [114, 115, 48, 48]), .lit (.string [114, 115, 48, 48]), .lit (.string [48, 115, 48, 48]), .lit (.string [114, 114, 114, 48]), .lit (.string [114, 114, 114, 48]), .lit (.string [114, 114, 114, 48]), .lit (.string [114, 114, 114, 42]), .lit (.string [114, 114, 114, 42]), .lit (.string [114, 114, 114, 48]), .lit (.string [114, 114, 114, 48]), .lit (.string [114, 114, 114, 48]), .lit (.string [114, 114, 48, 48]), .lit (.string [114, 114, 48, 48]), .lit (.string [48, 108, 48, 48]), .lit (.string [114, 108, 48, 48]), .lit (.string [114, 42, 48, 48]), .lit (.string [114, 42, 102, 48]), .lit (.string [114, 42, 114, 48]), .lit (.string [114, 114, 42, 48]), .lit (.string [114, 114, 114, 42]), .lit (.string [114, 114, 114, 42]), .lit (.string [114, 114, 114, 42]), .lit (.string [114, 114, 48, 48]), .lit (.string [114, 48, 48, 42]), .lit (.string [114, 48, 48, 42]), .lit (.string [48, 102, 48, 48]), .lit (.string [48, 97, 48, 48]), .lit (.string [48, 102, 48, 48]), .lit (.string [48, 97, 48, 48]), .lit (.string [48, 48, 48, 48])]

/-- 'slimlaw.Codes': WHATEVER THE INPUT: true; the input reads as it did. -/
def codesSpec : ChangeSpec := { name := "codes", fn := fun _ => fun
  | [d1, d2, d3, d4, d5, d6, d7] => { results := [.lit (.bool true)], args := [d1, d2, d3, d4, d5, d6, d7] }
  | _ => none }
def codesRow : OpenClaim := { program := "ytjmgolahkgalbaagreatdoor", sum := "fafd992ce630999a76fe27bc1ff56125fdcd104db0e192f2a05e671779709c7f", func := "slim/slimlaw.Codes", spec := "codes", named := ["slim/check.fields"], apart := false, laid := [("slim/check.fields", laid_slim_check_fields)] }
def CodesSaid : Prop := codesRow.holds Tryz.pinned (OpenSpec.ofChange codesSpec)

/-- ITS FALSE NEIGHBOUR: 'it returns false'. Refute it at one input. -/
def codesWrong : ChangeSpec := { name := "codes", fn := fun _ => fun
  | [d1, d2, d3, d4, d5, d6, d7] => { results := [.lit (.bool false)], args := [d1, d2, d3, d4, d5, d6, d7] }
  | _ => none }
def CodesWrongFalsely : Prop := codesRow.holds Tryz.pinned (OpenSpec.ofChange codesWrong)

/- THE SECOND FORM. 'bulk': how many values and letters a reading holds, each counted each time it is reached (what is shared counts as often as it is met; a slice's spare places count too). A statement '..UptoSaid' is the law's where the arguments, and the package variables that the reading takes, are together of bulk at most 1048576: NARROWER than '..Said'. Prove '..Said' where nothing that the law and all that it calls make is longer than what came in: it says more and counts as full. Else prove '..UptoSaid'. A law counts once. -/
mutual
def uptoBulk {H : Type} : DataW H → Nat
  | .lit (.string bytes) => bytes.length + 1
  | .lit _ => 1
  | .nil => 1
  | .ptr d => uptoBulk d + 1
  | .slice elems spare => uptoBulkAll elems + uptoBulkAll spare + 1
  | .agg parts => uptoBulkAll parts + 1
  | .iface _ d => uptoBulk d + 1
  | .map entries => uptoBulkEntries entries + 1
  | .held _ => 1
def uptoBulkAll {H : Type} : List (DataW H) → Nat
  | [] => 0
  | d :: r => uptoBulk d + uptoBulkAll r
def uptoBulkEntries {H : Type} : List (Lit × DataW H) → Nat
  | [] => 0
  | x :: r => uptoBulkEntry x + uptoBulkEntries r
def uptoBulkEntry {H : Type} : Lit × DataW H → Nat
  | (.string bytes, d) => bytes.length + uptoBulk d + 1
  | (_, d) => uptoBulk d + 1
 end
def uptoSmall : (H : Type) → List (DataW H) → Bool := fun _ ds => decide (uptoBulkAll ds ≤ 1048576)
def OpenSpec.upto (s : _root_.Go.ChangeSpec) : _root_.Go.OpenSpec := { _root_.Go.OpenSpec.ofChange s with cond := some uptoSmall }

/-- 'slimlaw.Codes', WHERE WHAT IT READS IS OF BULK AT MOST 1048576: true; the input reads as it did. -/
def codesUptoRow : OpenClaim := { program := "ytjmgolahkgalbaagreatdoor", sum := "fafd992ce630999a76fe27bc1ff56125fdcd104db0e192f2a05e671779709c7f", func := "slim/slimlaw.Codes", spec := "codes", named := ["slim/check.fields"], apart := false, laid := [("slim/check.fields", laid_slim_check_fields)], narrowed := true }
def CodesUptoSaid : Prop := codesUptoRow.holds Tryz.pinned (OpenSpec.upto codesSpec)

end Rows
end Go.Proofs.YtjmgolahkgalbaaGreatDoor
