/-
  NARROWER THAN 'FOR EVERY INPUT', by the rows' own cells (each row's printed sentence says how): Looped: laid.
  DERIVED. THE GIVEN ROWS OF THIS SEAT. 1 by the template 'for every input the law returns true; each argument reads behind the call as it read before'; 0 by the template 'total and deterministic' (their statements: YtjmifcnfnihhnaaGreatDoorTotals.lean).
  GIVEN WITH THE SEED: the statements are not yours to turn. If you find one false, say at which input.
  Laid BY PROGRAM, IN A SANDBOX (cutbox-rows.mjs): the forced cells as the released guide's own fill.sh prints them over the translation 5e1f55f7f1c0912a… (all of the seat's roots in one cut). By AI agents, Wed Nov 11 2026. No macro, syntax, notation, axiom, sorry.
-/
import Derived.Test.YtjmifcnfnihhnaaGreatDoorChecked
import GoSem.Claim
import GoSem.ClaimJoined
import GoSem.ClaimMapViews
import Derived.JoinedTies
import Derived.KernelRfl
namespace Go.Proofs.YtjmifcnfnihhnaaGreatDoor
/- THE CELL 'sum', in the pinned program and in every row, IS THE sha256 OF THE DUMP (.gsa) THAT YtjmifcnfnihhnaaGreatDoorProg.lean LOADS. Nothing in Lean hashes anything: it is a label: what it is worth is what the hold of that sum in a sandbox is worth. -/
noncomputable def Tryz.pinned : Pinned := { name := "ytjmifcnfnihhnaagreatdoor", sum := "5e1f55f7f1c0912a9b70cc666ba57034619edcf213165b55268ea741c16d3efb", checked := Tryz.checked }
namespace Rows
def none {H : Type} : Left H := { results := [], args := [] }

/- WHAT THE LISTED PACKAGE-LEVEL VARIABLES READ AS WHEN THE CALL BEGINS. Each datum BY PROGRAM (the guide's laid-datum.mjs) off the statement by which the dump's own 'gosem.cut.vars' lays the variable. In a bare row this is a premise. The card (YtjmifcnfnihhnaaGreatDoorCards.lean) ties it to the program's text. -/
def laid_slim_words_texts {H : Type} : DataW H := .agg [.lit (.string []), .lit (.string []), .lit (.string []), .lit (.string [108, 101, 116]), .lit (.string [114, 101, 99]), .lit (.string [105, 110]), .lit (.string [105, 102]), .lit (.string [116, 104, 101, 110]), .lit (.string [101, 108, 115, 101]), .lit (.string [102, 117, 110]), .lit (.string [110, 111, 116]), .lit (.string [116, 114, 117, 101]), .lit (.string [102, 97, 108, 115, 101]), .lit (.string [114, 101, 97, 100]), .lit (.string [112, 114, 105, 110, 116]), .lit (.string [108, 101, 110]), .lit (.string [97, 114, 114, 97, 121]), .lit (.string [112, 117, 116]), .lit (.string [46, 40]), .lit (.string [60, 62]), .lit (.string [60, 61]), .lit (.string [62, 61]), .lit (.string [45, 62]), .lit (.string [40]), .lit (.string [41]), .lit (.string [44]), .lit (.string [59]), .lit (.string [61]), .lit (.string [60]), .lit (.string [62]), .lit (.string [43]), .lit (.string [45]), .lit (.string [42]), .lit (.string [47]), .lit (.string [37])]
def laid_slim_check_fields {H : Type} : DataW H := .agg [.lit (.string []), .lit (.string [114, 107, 48, 48]), .lit (.string [114, 114, 48, 48]), .lit (.string [114, 115, 48, 48]), .lit (.string [114, 115, 48, 48]), .lit (.string [114, 115, 48, 48]), .lit (.string [48, 115, 48, 48]), .lit (.string [114, 114, 114, 48]), .lit (.string [114, 114, 114, 48]), .lit (.string [114, 114, 114, 48]), .lit (.string [114, 114, 114, 42]), .lit (.string [114, 114, 114, 42]), .lit (.string [114, 114, 114, 48]), .lit (.string [114, 114, 114, 48]), .lit (.string [114, 114, 114, 48]), .lit (.string [114, 114, 48, 48]), .lit (.string [114, 114, 48, 48]), .lit (.string [48, 108, 48, 48]), .lit (.string [114, 108, 48, 48]), .lit (.string [114, 42, 48, 48]), .lit (.string [114, 42, 102, 48]), .lit (.string [114, 42, 114, 48]), .lit (.string [114, 114, 42, 48]), .lit (.string [114, 114, 114, 42]), .lit (.string [114, 114, 114, 42]), .lit (.string [114, 114, 114, 42]), .lit (.string [114, 114, 48, 48]), .lit (.string [114, 48, 48, 42]), .lit (.string [114, 48, 48, 42]), .lit (.string [48, 102, 48, 48]), .lit (.string [48, 97, 48, 48]), .lit (.string [48, 102, 48, 48]), .lit (.string [48, 97, 48, 48]), .lit (.string [48, 48, 48, 48])]

/-- 'slimkeep.Looped': WHATEVER THE INPUT: true; the input reads as it did. -/
def loopedSpec : ChangeSpec := { name := "looped", fn := fun _ => fun
  | [d1, d2, d3] => { results := [.lit (.bool true)], args := [d1, d2, d3] }
  | _ => none }
def loopedRow : OpenClaim := { program := "ytjmifcnfnihhnaagreatdoor", sum := "5e1f55f7f1c0912a9b70cc666ba57034619edcf213165b55268ea741c16d3efb", func := "slim/slimkeep.Looped", spec := "looped", recurses := true, named := ["slim/words.texts", "slim/check.fields"], apart := false, laid := [("slim/words.texts", laid_slim_words_texts), ("slim/check.fields", laid_slim_check_fields)] }
def LoopedSaid : Prop := loopedRow.holds Tryz.pinned (OpenSpec.ofChange loopedSpec)

/-- ITS FALSE NEIGHBOUR: 'it returns false'. Refute it at one input. -/
def loopedWrong : ChangeSpec := { name := "looped", fn := fun _ => fun
  | [d1, d2, d3] => { results := [.lit (.bool false)], args := [d1, d2, d3] }
  | _ => none }
def LoopedWrongFalsely : Prop := loopedRow.holds Tryz.pinned (OpenSpec.ofChange loopedWrong)

/- THE SECOND FORM. 'bulk': how many values and letters a reading holds, each counted each time it is reached (what is shared counts as often as it is met; a slice's spare places count too). A statement '..UptoSaid' is the law's where the arguments, and the package variables that the reading takes, are together of bulk at most 1048576: NARROWER than '..Said'. Prove '..Said' where nothing that the law and all that it calls make is longer than what came in: it says more and counts as full. Else prove '..UptoSaid'. A law counts once. -/
mutual
def uptoBulk {H : Type} : DataW H → Nat
  | .lit (.string bytes) => bytes.length + 1
  | .lit _ => 1
  | .nil => 1
  | .ptr d => uptoBulk d + 1
  | .slice elems spare => uptoBulkAll elems + uptoBulkAll spare + 1
  | .agg parts => uptoBulkAll parts + 1
  | .iface _ d => uptoBulk d + 1
  | .map entries => uptoBulkEntries entries + 1
  | .held _ => 1
def uptoBulkAll {H : Type} : List (DataW H) → Nat
  | [] => 0
  | d :: r => uptoBulk d + uptoBulkAll r
def uptoBulkEntries {H : Type} : List (Lit × DataW H) → Nat
  | [] => 0
  | x :: r => uptoBulkEntry x + uptoBulkEntries r
def uptoBulkEntry {H : Type} : Lit × DataW H → Nat
  | (.string bytes, d) => bytes.length + uptoBulk d + 1
  | (_, d) => uptoBulk d + 1
 end
def uptoSmall : (H : Type) → List (DataW H) → Bool := fun _ ds => decide (uptoBulkAll ds ≤ 1048576)
def OpenSpec.upto (s : _root_.Go.ChangeSpec) : _root_.Go.OpenSpec := { _root_.Go.OpenSpec.ofChange s with cond := some uptoSmall }

/-- 'slimkeep.Looped', WHERE WHAT IT READS IS OF BULK AT MOST 1048576: true; the input reads as it did. -/
def loopedUptoRow : OpenClaim := { program := "ytjmifcnfnihhnaagreatdoor", sum := "5e1f55f7f1c0912a9b70cc666ba57034619edcf213165b55268ea741c16d3efb", func := "slim/slimkeep.Looped", spec := "looped", recurses := true, named := ["slim/words.texts", "slim/check.fields"], apart := false, laid := [("slim/words.texts", laid_slim_words_texts), ("slim/check.fields", laid_slim_check_fields)], narrowed := true }
def LoopedUptoSaid : Prop := loopedUptoRow.holds Tryz.pinned (OpenSpec.upto loopedSpec)

end Rows
end Go.Proofs.YtjmifcnfnihhnaaGreatDoor
