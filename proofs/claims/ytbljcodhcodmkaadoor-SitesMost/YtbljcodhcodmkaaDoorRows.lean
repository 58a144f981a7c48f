/-
  NARROWER THAN 'FOR EVERY INPUT', by the rows' own cells (each row's printed sentence says how): SitesNumbers: laid · SitesMost: laid.
  DERIVED. THE GIVEN ROWS OF THIS SEAT. 2 by the template 'for every input the law returns true; each argument reads behind the call as it read before'; 0 by the template 'total and deterministic' (their statements: YtbljcodhcodmkaaDoorTotals.lean).
  GIVEN WITH THE SEED: the statements are not yours to turn. If you find one false, say at which input.
  Laid BY PROGRAM, IN A SANDBOX (cutbox-rows.mjs): the forced cells as the released guide's own fill.sh prints them over the translation 824500d383842a2f… (all of the seat's roots in one cut). By AI agents, Wed Nov 11 2026. No macro, syntax, notation, axiom, sorry.
-/
import Derived.Test.YtbljcodhcodmkaaDoorChecked
import GoSem.Claim
import GoSem.ClaimJoined
import GoSem.ClaimMapViews
import Derived.JoinedTies
import Derived.KernelRfl
namespace Go.Proofs.YtbljcodhcodmkaaDoor
/- THE CELL 'sum', in the pinned program and in every row, IS THE sha256 OF THE DUMP (.gsa) THAT YtbljcodhcodmkaaDoorProg.lean LOADS. Nothing in Lean hashes anything: it is a label: what it is worth is what the hold of that sum in a sandbox is worth. -/
noncomputable def Tryd.pinned : Pinned := { name := "ytbljcodhcodmkaadoor", sum := "824500d383842a2f97d9fc3297538d064074971507db160dd65b94cd8a75ce70", checked := Tryd.checked }
namespace Rows
def none {H : Type} : Left H := { results := [], args := [] }

/- WHAT THE LISTED PACKAGE-LEVEL VARIABLES READ AS WHEN THE CALL BEGINS. Each datum BY PROGRAM (the guide's laid-datum.mjs) off the statement by which the dump's own 'gosem.cut.vars' lays the variable. In a bare row this is a premise. The card (YtbljcodhcodmkaaDoorCards.lean) ties it to the program's text. -/
def laid_plumb_bits_binary64 {H : Type} : DataW H := .agg [.lit (.int .i64 52), .lit (.int .i64 2047), .lit (.int .i64 (-1074))]
def laid_plumb_bits_binary32 {H : Type} : DataW H := .agg [.lit (.int .i64 23), .lit (.int .i64 255), .lit (.int .i64 (-149))]

/-- 'plumblaw15.SitesNumbers': WHATEVER THE INPUT: true; the input reads as it did. -/
def sitesNumbersSpec : ChangeSpec := { name := "sitesNumbers", fn := fun _ => fun
  | [d1, d2] => { results := [.lit (.bool true)], args := [d1, d2] }
  | _ => none }
def sitesNumbersRow : OpenClaim := { program := "ytbljcodhcodmkaadoor", sum := "824500d383842a2f97d9fc3297538d064074971507db160dd65b94cd8a75ce70", func := "plumb/plumblaw15.SitesNumbers", spec := "sitesNumbers", inPlace := ["math.Float64frombits", "math.Float64bits"], named := ["plumb/bits.binary64"], plainKeys := false, apart := false, laid := [("plumb/bits.binary64", laid_plumb_bits_binary64)] }
def SitesNumbersSaid : Prop := sitesNumbersRow.holds Tryd.pinned (OpenSpec.ofChange sitesNumbersSpec)

/-- ITS FALSE NEIGHBOUR: 'it returns false'. Refute it at one input. -/
def sitesNumbersWrong : ChangeSpec := { name := "sitesNumbers", fn := fun _ => fun
  | [d1, d2] => { results := [.lit (.bool false)], args := [d1, d2] }
  | _ => none }
def SitesNumbersWrongFalsely : Prop := sitesNumbersRow.holds Tryd.pinned (OpenSpec.ofChange sitesNumbersWrong)

/-- 'plumblaw15.SitesMost': WHATEVER THE INPUT: true; the input reads as it did. -/
def sitesMostSpec : ChangeSpec := { name := "sitesMost", fn := fun _ => fun
  | [d] => { results := [.lit (.bool true)], args := [d] }
  | _ => none }
def sitesMostRow : OpenClaim := { program := "ytbljcodhcodmkaadoor", sum := "824500d383842a2f97d9fc3297538d064074971507db160dd65b94cd8a75ce70", func := "plumb/plumblaw15.SitesMost", spec := "sitesMost", inPlace := ["math.Float64frombits", "math.Float64bits", "math.Float32frombits"], unfollowed := true, recurses := true, named := ["plumb/bits.binary64", "plumb/bits.binary32"], plainKeys := false, apart := false, laid := [("plumb/bits.binary64", laid_plumb_bits_binary64), ("plumb/bits.binary32", laid_plumb_bits_binary32)] }
def SitesMostSaid : Prop := sitesMostRow.holds Tryd.pinned (OpenSpec.ofChange sitesMostSpec)

/-- ITS FALSE NEIGHBOUR: 'it returns false'. Refute it at one input. -/
def sitesMostWrong : ChangeSpec := { name := "sitesMost", fn := fun _ => fun
  | [d] => { results := [.lit (.bool false)], args := [d] }
  | _ => none }
def SitesMostWrongFalsely : Prop := sitesMostRow.holds Tryd.pinned (OpenSpec.ofChange sitesMostWrong)

/- THE SECOND FORM. 'bulk': how many values and letters a reading holds, each counted each time it is reached (what is shared counts as often as it is met; a slice's spare places count too). A statement '..UptoSaid' is the law's where the arguments, and the package variables that the reading takes, are together of bulk at most 1048576: NARROWER than '..Said'. Prove '..Said' where nothing that the law and all that it calls make is longer than what came in: it says more and counts as full. Else prove '..UptoSaid'. A law counts once. -/
mutual
def uptoBulk {H : Type} : DataW H → Nat
  | .lit (.string bytes) => bytes.length + 1
  | .lit _ => 1
  | .nil => 1
  | .ptr d => uptoBulk d + 1
  | .slice elems spare => uptoBulkAll elems + uptoBulkAll spare + 1
  | .agg parts => uptoBulkAll parts + 1
  | .iface _ d => uptoBulk d + 1
  | .map entries => uptoBulkEntries entries + 1
  | .held _ => 1
def uptoBulkAll {H : Type} : List (DataW H) → Nat
  | [] => 0
  | d :: r => uptoBulk d + uptoBulkAll r
def uptoBulkEntries {H : Type} : List (Lit × DataW H) → Nat
  | [] => 0
  | x :: r => uptoBulkEntry x + uptoBulkEntries r
def uptoBulkEntry {H : Type} : Lit × DataW H → Nat
  | (.string bytes, d) => bytes.length + uptoBulk d + 1
  | (_, d) => uptoBulk d + 1
 end
def uptoSmall : (H : Type) → List (DataW H) → Bool := fun _ ds => decide (uptoBulkAll ds ≤ 1048576)
def OpenSpec.upto (s : _root_.Go.ChangeSpec) : _root_.Go.OpenSpec := { _root_.Go.OpenSpec.ofChange s with cond := some uptoSmall }

/-- 'plumblaw15.SitesNumbers', WHERE WHAT IT READS IS OF BULK AT MOST 1048576: true; the input reads as it did. -/
def sitesNumbersUptoRow : OpenClaim := { program := "ytbljcodhcodmkaadoor", sum := "824500d383842a2f97d9fc3297538d064074971507db160dd65b94cd8a75ce70", func := "plumb/plumblaw15.SitesNumbers", spec := "sitesNumbers", inPlace := ["math.Float64frombits", "math.Float64bits"], named := ["plumb/bits.binary64"], plainKeys := false, apart := false, laid := [("plumb/bits.binary64", laid_plumb_bits_binary64)], narrowed := true }
def SitesNumbersUptoSaid : Prop := sitesNumbersUptoRow.holds Tryd.pinned (OpenSpec.upto sitesNumbersSpec)

/-- 'plumblaw15.SitesMost', WHERE WHAT IT READS IS OF BULK AT MOST 1048576: true; the input reads as it did. -/
def sitesMostUptoRow : OpenClaim := { program := "ytbljcodhcodmkaadoor", sum := "824500d383842a2f97d9fc3297538d064074971507db160dd65b94cd8a75ce70", func := "plumb/plumblaw15.SitesMost", spec := "sitesMost", inPlace := ["math.Float64frombits", "math.Float64bits", "math.Float32frombits"], unfollowed := true, recurses := true, named := ["plumb/bits.binary64", "plumb/bits.binary32"], plainKeys := false, apart := false, laid := [("plumb/bits.binary64", laid_plumb_bits_binary64), ("plumb/bits.binary32", laid_plumb_bits_binary32)], narrowed := true }
def SitesMostUptoSaid : Prop := sitesMostUptoRow.holds Tryd.pinned (OpenSpec.upto sitesMostSpec)

end Rows
end Go.Proofs.YtbljcodhcodmkaaDoor
