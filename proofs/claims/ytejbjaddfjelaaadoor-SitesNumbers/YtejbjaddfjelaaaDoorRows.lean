/-
  NARROWER THAN 'FOR EVERY INPUT', by the rows' own cells (each row's printed sentence says how): SitesNumbers: laid.
  DERIVED. THE GIVEN ROWS OF THIS SEAT. 1 by the template 'for every input the law returns true; each argument reads behind the call as it read before'; 0 by the template 'total and deterministic' (their statements: YtejbjaddfjelaaaDoorTotals.lean).
  GIVEN WITH THE SEED: the statements are not yours to turn. If you find one false, say at which input.
  Laid BY PROGRAM, IN A SANDBOX (cutbox-rows.mjs): the forced cells as the released guide's own fill.sh prints them over the translation 32aed107d4a1086d… (all of the seat's roots in one cut). By AI agents, Wed Nov 11 2026. No macro, syntax, notation, axiom, sorry.
-/
import Derived.Test.YtejbjaddfjelaaaDoorChecked
import GoSem.Claim
import GoSem.ClaimJoined
import GoSem.ClaimMapViews
import Derived.JoinedTies
import Derived.KernelRfl
namespace Go.Proofs.YtejbjaddfjelaaaDoor
/- THE CELL 'sum', in the pinned program and in every row, IS THE sha256 OF THE DUMP (.gsa) THAT YtejbjaddfjelaaaDoorProg.lean LOADS. Nothing in Lean hashes anything: it is a label: what it is worth is what the hold of that sum in a sandbox is worth. -/
noncomputable def Tryd.pinned : Pinned := { name := "ytejbjaddfjelaaadoor", sum := "32aed107d4a1086d1129c194854984aed60738b9f69b8e423b1b56b6b92df116", checked := Tryd.checked }
namespace Rows
def none {H : Type} : Left H := { results := [], args := [] }

/- WHAT THE LISTED PACKAGE-LEVEL VARIABLES READ AS WHEN THE CALL BEGINS. Each datum BY PROGRAM (the guide's laid-datum.mjs) off the statement by which the dump's own 'gosem.cut.vars' lays the variable. In a bare row this is a premise. The card (YtejbjaddfjelaaaDoorCards.lean) ties it to the program's text. -/
def laid_plumb_bits_binary64 {H : Type} : DataW H := .agg [.lit (.int .i64 52), .lit (.int .i64 2047), .lit (.int .i64 (-1074))]

/-- 'plumblaw15.SitesNumbers': WHATEVER THE INPUT: true; the input reads as it did. -/
def sitesNumbersSpec : ChangeSpec := { name := "sitesNumbers", fn := fun _ => fun
  | [d1, d2] => { results := [.lit (.bool true)], args := [d1, d2] }
  | _ => none }
def sitesNumbersRow : OpenClaim := { program := "ytejbjaddfjelaaadoor", sum := "32aed107d4a1086d1129c194854984aed60738b9f69b8e423b1b56b6b92df116", func := "plumb/plumblaw15.SitesNumbers", spec := "sitesNumbers", inPlace := ["math.Float64frombits", "math.Float64bits"], named := ["plumb/bits.binary64"], plainKeys := false, apart := false, laid := [("plumb/bits.binary64", laid_plumb_bits_binary64)] }
def SitesNumbersSaid : Prop := sitesNumbersRow.holds Tryd.pinned (OpenSpec.ofChange sitesNumbersSpec)

/-- ITS FALSE NEIGHBOUR: 'it returns false'. Refute it at one input. -/
def sitesNumbersWrong : ChangeSpec := { name := "sitesNumbers", fn := fun _ => fun
  | [d1, d2] => { results := [.lit (.bool false)], args := [d1, d2] }
  | _ => none }
def SitesNumbersWrongFalsely : Prop := sitesNumbersRow.holds Tryd.pinned (OpenSpec.ofChange sitesNumbersWrong)

/- THE SECOND FORM. 'bulk': how many values and letters a reading holds, each counted each time it is reached (what is shared counts as often as it is met; a slice's spare places count too). A statement '..UptoSaid' is the law's where the arguments, and the package variables that the reading takes, are together of bulk at most 1048576: NARROWER than '..Said'. Prove '..Said' where nothing that the law and all that it calls make is longer than what came in: it says more and counts as full. Else prove '..UptoSaid'. A law counts once. -/
mutual
def uptoBulk {H : Type} : DataW H → Nat
  | .lit (.string bytes) => bytes.length + 1
  | .lit _ => 1
  | .nil => 1
  | .ptr d => uptoBulk d + 1
  | .slice elems spare => uptoBulkAll elems + uptoBulkAll spare + 1
  | .agg parts => uptoBulkAll parts + 1
  | .iface _ d => uptoBulk d + 1
  | .map entries => uptoBulkEntries entries + 1
  | .held _ => 1
def uptoBulkAll {H : Type} : List (DataW H) → Nat
  | [] => 0
  | d :: r => uptoBulk d + uptoBulkAll r
def uptoBulkEntries {H : Type} : List (Lit × DataW H) → Nat
  | [] => 0
  | x :: r => uptoBulkEntry x + uptoBulkEntries r
def uptoBulkEntry {H : Type} : Lit × DataW H → Nat
  | (.string bytes, d) => bytes.length + uptoBulk d + 1
  | (_, d) => uptoBulk d + 1
 end
def uptoSmall : (H : Type) → List (DataW H) → Bool := fun _ ds => decide (uptoBulkAll ds ≤ 1048576)
def OpenSpec.upto (s : _root_.Go.ChangeSpec) : _root_.Go.OpenSpec := { _root_.Go.OpenSpec.ofChange s with cond := some uptoSmall }

/-- 'plumblaw15.SitesNumbers', WHERE WHAT IT READS IS OF BULK AT MOST 1048576: true; the input reads as it did. -/
def sitesNumbersUptoRow : OpenClaim := { program := "ytejbjaddfjelaaadoor", sum := "32aed107d4a1086d1129c194854984aed60738b9f69b8e423b1b56b6b92df116", func := "plumb/plumblaw15.SitesNumbers", spec := "sitesNumbers", inPlace := ["math.Float64frombits", "math.Float64bits"], named := ["plumb/bits.binary64"], plainKeys := false, apart := false, laid := [("plumb/bits.binary64", laid_plumb_bits_binary64)], narrowed := true }
def SitesNumbersUptoSaid : Prop := sitesNumbersUptoRow.holds Tryd.pinned (OpenSpec.upto sitesNumbersSpec)

end Rows
end Go.Proofs.YtejbjaddfjelaaaDoor
