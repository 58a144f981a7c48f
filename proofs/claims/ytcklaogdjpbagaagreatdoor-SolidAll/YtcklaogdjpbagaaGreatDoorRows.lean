/-
  NARROWER THAN 'FOR EVERY INPUT', by the rows' own cells (each row's printed sentence says how): SolidSides: laid · SolidSpheres: laid · SolidAll: laid.
  DERIVED. THE GIVEN ROWS OF THIS SEAT. 3 by the template 'for every input the law returns true; each argument reads behind the call as it read before'; 0 by the template 'total and deterministic' (their statements: YtcklaogdjpbagaaGreatDoorTotals.lean).
  GIVEN WITH THE SEED: the statements are not yours to turn. If you find one false, say at which input.
  Laid BY PROGRAM, IN A SANDBOX (cutbox-rows.mjs): the forced cells as the released guide's own fill.sh prints them over the translation 57d064380b3dae42… (all of the seat's roots in one cut). By AI agents, Wed Nov 11 2026. No macro, syntax, notation, axiom, sorry.
-/
import Derived.Test.YtcklaogdjpbagaaGreatDoorChecked
import GoSem.Claim
import GoSem.ClaimJoined
import GoSem.ClaimMapViews
import Derived.JoinedTies
import Derived.KernelRfl
namespace Go.Proofs.YtcklaogdjpbagaaGreatDoor
/- THE CELL 'sum', in the pinned program and in every row, IS THE sha256 OF THE DUMP (.gsa) THAT YtcklaogdjpbagaaGreatDoorProg.lean LOADS. Nothing in Lean hashes anything: it is a label: what it is worth is what the hold of that sum in a sandbox is worth. -/
noncomputable def Tryz.pinned : Pinned := { name := "ytcklaogdjpbagaagreatdoor", sum := "57d064380b3dae42fd0215e5d3e79bc976067d0310bbc14eb0c66052391b2544", checked := Tryz.checked }
namespace Rows
def none {H : Type} : Left H := { results := [], args := [] }

/- WHAT THE LISTED PACKAGE-LEVEL VARIABLES READ AS WHEN THE CALL BEGINS. Each datum BY PROGRAM (the guide's laid-datum.mjs) off the statement by which the dump's own 'gosem.cut.vars' lays the variable. In a bare row this is a premise. The card (YtcklaogdjpbagaaGreatDoorCards.lean) ties it to the program's text. -/
def laid_math_bits_deBruijn32tab {H : Type} : DataW H := .agg [.lit (.int .u8 0), .lit (.int .u8 1), .lit (.int .u8 28), .lit (.int .u8 2), .lit (.int .u8 29), .lit (.int .u8 14), .lit (.int .u8 24), .lit (.int .u8 3), .lit (.int .u8 30), .lit (.int .u8 22), .lit (.int .u8 20), .lit (.int .u8 15), .lit (.int .u8 25), .lit (.int .u8 17), .lit (.int .u8 4), .lit (.int .u8 8), .lit (.int .u8 31), .lit (.int .u8 27), .lit (.int .u8 13), .lit (.int .u8 23), .lit (.int .u8 21), .lit (.int .u8 19), .lit (.int .u8 16), .lit (.int .u8 7), .lit (.int .u8 26), .lit (.int .u8 12), .lit (.int .u8 18), .lit (.int .u8 6), .lit (.int .u8 11), .lit (.int .u8 5), .lit (.int .u8 10), .lit (.int .u8 9)]
def laid_math_bits_deBruijn64tab {H : Type} : DataW H := .agg [.lit (.int .u8 0), .lit (.int .u8 1), .lit (.int .u8 56), .lit (.int .u8 2), .lit (.int .u8 57), .lit (.int .u8 49), .lit (.int .u8 28), .lit (.int .u8 3), .lit (.int .u8 61), .lit (.int .u8 58), .lit (.int .u8 42), .lit (.int .u8 50), .lit (.int .u8 38), .lit (.int .u8 29), .lit (.int .u8 17), .lit (.int .u8 4), .lit (.int .u8 62), .lit (.int .u8 47), .lit (.int .u8 59), .lit (.int .u8 36), .lit (.int .u8 45), .lit (.int .u8 43), .lit (.int .u8 51), .lit (.int .u8 22), .lit (.int .u8 53), .lit (.int .u8 39), .lit (.int .u8 33), .lit (.int .u8 30), .lit (.int .u8 24), .lit (.int .u8 18), .lit (.int .u8 12), .lit (.int .u8 5), .lit (.int .u8 63), .lit (.int .u8 55), .lit (.int .u8 48), .lit (.int .u8 27), .lit (.int .u8 60), .lit (.int .u8 41), .lit (.int .u8 37), .lit (.int .u8 16), .lit (.int .u8 46), .lit (.int .u8 35), .lit (.int .u8 44), .lit (.int .u8 21), .lit (.int .u8 52), .lit (.int .u8 32), .lit (.int .u8 23), .lit (.int .u8 11), .lit (.int .u8 54), .lit (.int .u8 26), .lit (.int .u8 40), .lit (.int .u8 15), .lit (.int .u8 34), .lit (.int .u8 20), .lit (.int .u8 31), .lit (.int .u8 10), .lit (.int .u8 25), .lit (.int .u8 14), .lit (.int .u8 19), .lit (.int .u8 9), .lit (.int .u8 13), .lit (.int .u8 8), .lit (.int .u8 7), .lit (.int .u8 6)]
def laid_plumb_bits_binary64 {H : Type} : DataW H := .agg [.lit (.int .i64 52), .lit (.int .i64 2047), .lit (.int .i64 (-1074))]

/-- 'plumblaw12.SolidSides': WHATEVER THE INPUT: true; the input reads as it did. -/
def solidSidesSpec : ChangeSpec := { name := "solidSides", fn := fun _ => fun
  | [d] => { results := [.lit (.bool true)], args := [d] }
  | _ => none }
def solidSidesRow : OpenClaim := { program := "ytcklaogdjpbagaagreatdoor", sum := "57d064380b3dae42fd0215e5d3e79bc976067d0310bbc14eb0c66052391b2544", func := "plumb/plumblaw12.SolidSides", spec := "solidSides", inPlace := ["math.Float64bits", "math.Float64frombits"], unfollowed := true, recurses := true, named := ["math/bits.deBruijn32tab", "math/bits.deBruijn64tab", "plumb/bits.binary64"], apart := false, laid := [("math/bits.deBruijn32tab", laid_math_bits_deBruijn32tab), ("math/bits.deBruijn64tab", laid_math_bits_deBruijn64tab), ("plumb/bits.binary64", laid_plumb_bits_binary64)] }
def SolidSidesSaid : Prop := solidSidesRow.holds Tryz.pinned (OpenSpec.ofChange solidSidesSpec)

/-- ITS FALSE NEIGHBOUR: 'it returns false'. Refute it at one input. -/
def solidSidesWrong : ChangeSpec := { name := "solidSides", fn := fun _ => fun
  | [d] => { results := [.lit (.bool false)], args := [d] }
  | _ => none }
def SolidSidesWrongFalsely : Prop := solidSidesRow.holds Tryz.pinned (OpenSpec.ofChange solidSidesWrong)

/-- 'plumblaw12.SolidSpheres': WHATEVER THE INPUT: true; the input reads as it did. -/
def solidSpheresSpec : ChangeSpec := { name := "solidSpheres", fn := fun _ => fun
  | [d] => { results := [.lit (.bool true)], args := [d] }
  | _ => none }
def solidSpheresRow : OpenClaim := { program := "ytcklaogdjpbagaagreatdoor", sum := "57d064380b3dae42fd0215e5d3e79bc976067d0310bbc14eb0c66052391b2544", func := "plumb/plumblaw12.SolidSpheres", spec := "solidSpheres", inPlace := ["math.Float64bits", "math.Float64frombits"], unfollowed := true, recurses := true, named := ["math/bits.deBruijn32tab", "math/bits.deBruijn64tab", "plumb/bits.binary64"], apart := false, laid := [("math/bits.deBruijn32tab", laid_math_bits_deBruijn32tab), ("math/bits.deBruijn64tab", laid_math_bits_deBruijn64tab), ("plumb/bits.binary64", laid_plumb_bits_binary64)] }
def SolidSpheresSaid : Prop := solidSpheresRow.holds Tryz.pinned (OpenSpec.ofChange solidSpheresSpec)

/-- ITS FALSE NEIGHBOUR: 'it returns false'. Refute it at one input. -/
def solidSpheresWrong : ChangeSpec := { name := "solidSpheres", fn := fun _ => fun
  | [d] => { results := [.lit (.bool false)], args := [d] }
  | _ => none }
def SolidSpheresWrongFalsely : Prop := solidSpheresRow.holds Tryz.pinned (OpenSpec.ofChange solidSpheresWrong)

/-- 'plumblaw12.SolidAll': WHATEVER THE INPUT: true; the input reads as it did. -/
def solidAllSpec : ChangeSpec := { name := "solidAll", fn := fun _ => fun
  | [d] => { results := [.lit (.bool true)], args := [d] }
  | _ => none }
def solidAllRow : OpenClaim := { program := "ytcklaogdjpbagaagreatdoor", sum := "57d064380b3dae42fd0215e5d3e79bc976067d0310bbc14eb0c66052391b2544", func := "plumb/plumblaw12.SolidAll", spec := "solidAll", inPlace := ["math.Float64bits", "math.Float64frombits"], unfollowed := true, recurses := true, named := ["math/bits.deBruijn32tab", "math/bits.deBruijn64tab", "plumb/bits.binary64"], apart := false, laid := [("math/bits.deBruijn32tab", laid_math_bits_deBruijn32tab), ("math/bits.deBruijn64tab", laid_math_bits_deBruijn64tab), ("plumb/bits.binary64", laid_plumb_bits_binary64)] }
def SolidAllSaid : Prop := solidAllRow.holds Tryz.pinned (OpenSpec.ofChange solidAllSpec)

/-- ITS FALSE NEIGHBOUR: 'it returns false'. Refute it at one input. -/
def solidAllWrong : ChangeSpec := { name := "solidAll", fn := fun _ => fun
  | [d] => { results := [.lit (.bool false)], args := [d] }
  | _ => none }
def SolidAllWrongFalsely : Prop := solidAllRow.holds Tryz.pinned (OpenSpec.ofChange solidAllWrong)

/- THE SECOND FORM. 'bulk': how many values and letters a reading holds, each counted each time it is reached (what is shared counts as often as it is met; a slice's spare places count too). A statement '..UptoSaid' is the law's where the arguments, and the package variables that the reading takes, are together of bulk at most 1048576: NARROWER than '..Said'. Prove '..Said' where nothing that the law and all that it calls make is longer than what came in: it says more and counts as full. Else prove '..UptoSaid'. A law counts once. -/
mutual
def uptoBulk {H : Type} : DataW H → Nat
  | .lit (.string bytes) => bytes.length + 1
  | .lit _ => 1
  | .nil => 1
  | .ptr d => uptoBulk d + 1
  | .slice elems spare => uptoBulkAll elems + uptoBulkAll spare + 1
  | .agg parts => uptoBulkAll parts + 1
  | .iface _ d => uptoBulk d + 1
  | .map entries => uptoBulkEntries entries + 1
  | .held _ => 1
def uptoBulkAll {H : Type} : List (DataW H) → Nat
  | [] => 0
  | d :: r => uptoBulk d + uptoBulkAll r
def uptoBulkEntries {H : Type} : List (Lit × DataW H) → Nat
  | [] => 0
  | x :: r => uptoBulkEntry x + uptoBulkEntries r
def uptoBulkEntry {H : Type} : Lit × DataW H → Nat
  | (.string bytes, d) => bytes.length + uptoBulk d + 1
  | (_, d) => uptoBulk d + 1
 end
def uptoSmall : (H : Type) → List (DataW H) → Bool := fun _ ds => decide (uptoBulkAll ds ≤ 1048576)
def OpenSpec.upto (s : _root_.Go.ChangeSpec) : _root_.Go.OpenSpec := { _root_.Go.OpenSpec.ofChange s with cond := some uptoSmall }

/-- 'plumblaw12.SolidSides', WHERE WHAT IT READS IS OF BULK AT MOST 1048576: true; the input reads as it did. -/
def solidSidesUptoRow : OpenClaim := { program := "ytcklaogdjpbagaagreatdoor", sum := "57d064380b3dae42fd0215e5d3e79bc976067d0310bbc14eb0c66052391b2544", func := "plumb/plumblaw12.SolidSides", spec := "solidSides", inPlace := ["math.Float64bits", "math.Float64frombits"], unfollowed := true, recurses := true, named := ["math/bits.deBruijn32tab", "math/bits.deBruijn64tab", "plumb/bits.binary64"], apart := false, laid := [("math/bits.deBruijn32tab", laid_math_bits_deBruijn32tab), ("math/bits.deBruijn64tab", laid_math_bits_deBruijn64tab), ("plumb/bits.binary64", laid_plumb_bits_binary64)], narrowed := true }
def SolidSidesUptoSaid : Prop := solidSidesUptoRow.holds Tryz.pinned (OpenSpec.upto solidSidesSpec)

/-- 'plumblaw12.SolidSpheres', WHERE WHAT IT READS IS OF BULK AT MOST 1048576: true; the input reads as it did. -/
def solidSpheresUptoRow : OpenClaim := { program := "ytcklaogdjpbagaagreatdoor", sum := "57d064380b3dae42fd0215e5d3e79bc976067d0310bbc14eb0c66052391b2544", func := "plumb/plumblaw12.SolidSpheres", spec := "solidSpheres", inPlace := ["math.Float64bits", "math.Float64frombits"], unfollowed := true, recurses := true, named := ["math/bits.deBruijn32tab", "math/bits.deBruijn64tab", "plumb/bits.binary64"], apart := false, laid := [("math/bits.deBruijn32tab", laid_math_bits_deBruijn32tab), ("math/bits.deBruijn64tab", laid_math_bits_deBruijn64tab), ("plumb/bits.binary64", laid_plumb_bits_binary64)], narrowed := true }
def SolidSpheresUptoSaid : Prop := solidSpheresUptoRow.holds Tryz.pinned (OpenSpec.upto solidSpheresSpec)

/-- 'plumblaw12.SolidAll', WHERE WHAT IT READS IS OF BULK AT MOST 1048576: true; the input reads as it did. -/
def solidAllUptoRow : OpenClaim := { program := "ytcklaogdjpbagaagreatdoor", sum := "57d064380b3dae42fd0215e5d3e79bc976067d0310bbc14eb0c66052391b2544", func := "plumb/plumblaw12.SolidAll", spec := "solidAll", inPlace := ["math.Float64bits", "math.Float64frombits"], unfollowed := true, recurses := true, named := ["math/bits.deBruijn32tab", "math/bits.deBruijn64tab", "plumb/bits.binary64"], apart := false, laid := [("math/bits.deBruijn32tab", laid_math_bits_deBruijn32tab), ("math/bits.deBruijn64tab", laid_math_bits_deBruijn64tab), ("plumb/bits.binary64", laid_plumb_bits_binary64)], narrowed := true }
def SolidAllUptoSaid : Prop := solidAllUptoRow.holds Tryz.pinned (OpenSpec.upto solidAllSpec)

end Rows
end Go.Proofs.YtcklaogdjpbagaaGreatDoor
