/-
  NARROWER THAN 'FOR EVERY INPUT', by the rows' own cells (each row's printed sentence says how): BitsFloats: laid · BitsAll: laid · BitsBack: laid · BitsNext: laid · BitsUlp: laid · BitsChain: laid.
  DERIVED. THE GIVEN ROWS OF THIS SEAT. 6 by the template 'for every input the law returns true; each argument reads behind the call as it read before'; 0 by the template 'total and deterministic' (their statements: YthppkpbfdgfcaabDoorTotals.lean).
  GIVEN WITH THE SEED: the statements are not yours to turn. If you find one false, say at which input.
  Laid BY PROGRAM, IN A SANDBOX (cutbox-rows.mjs): the forced cells as the released guide's own fill.sh prints them over the translation 2fa5b945b20a0cec… (all of the seat's roots in one cut). By AI agents, Wed Nov 11 2026. No macro, syntax, notation, axiom, sorry.
-/
import Derived.Test.YthppkpbfdgfcaabDoorChecked
import GoSem.Claim
import GoSem.ClaimJoined
import GoSem.ClaimMapViews
import Derived.JoinedTies
import Derived.KernelRfl
namespace Go.Proofs.YthppkpbfdgfcaabDoor
/- THE CELL 'sum', in the pinned program and in every row, IS THE sha256 OF THE DUMP (.gsa) THAT YthppkpbfdgfcaabDoorProg.lean LOADS. Nothing in Lean hashes anything: it is a label: what it is worth is what the hold of that sum in a sandbox is worth. -/
noncomputable def Tryd.pinned : Pinned := { name := "ythppkpbfdgfcaabdoor", sum := "2fa5b945b20a0cec8fd1110e1a2e540e4957d7160cb5e16eda4cf4ef0c0d35e4", checked := Tryd.checked }
namespace Rows
def none {H : Type} : Left H := { results := [], args := [] }

/- WHAT THE LISTED PACKAGE-LEVEL VARIABLES READ AS WHEN THE CALL BEGINS. Each datum BY PROGRAM (the guide's laid-datum.mjs) off the statement by which the dump's own 'gosem.cut.vars' lays the variable. In a bare row this is a premise. The card (YthppkpbfdgfcaabDoorCards.lean) ties it to the program's text. -/
def laid_plumb_bits_binary64 {H : Type} : DataW H := .agg [.lit (.int .i64 52), .lit (.int .i64 2047), .lit (.int .i64 (-1074))]
def laid_plumb_bits_binary32 {H : Type} : DataW H := .agg [.lit (.int .i64 23), .lit (.int .i64 255), .lit (.int .i64 (-149))]
def laid_math_bits_deBruijn64tab {H : Type} : DataW H := .agg [.lit (.int .u8 0), .lit (.int .u8 1), .lit (.int .u8 56), .lit (.int .u8 2), .lit (.int .u8 57), .lit (.int .u8 49), .lit (.int .u8 28), .lit (.int .u8 3), .lit (.int .u8 61), .lit (.int .u8 58), .lit (.int .u8 42), .lit (.int .u8 50), .lit (.int .u8 38), .lit (.int .u8 29), .lit (.int .u8 17), .lit (.int .u8 4), .lit (.int .u8 62), .lit (.int .u8 47), .lit (.int .u8 59), .lit (.int .u8 36), .lit (.int .u8 45), .lit (.int .u8 43), .lit (.int .u8 51), .lit (.int .u8 22), .lit (.int .u8 53), .lit (.int .u8 39), .lit (.int .u8 33), .lit (.int .u8 30), .lit (.int .u8 24), .lit (.int .u8 18), .lit (.int .u8 12), .lit (.int .u8 5), .lit (.int .u8 63), .lit (.int .u8 55), .lit (.int .u8 48), .lit (.int .u8 27), .lit (.int .u8 60), .lit (.int .u8 41), .lit (.int .u8 37), .lit (.int .u8 16), .lit (.int .u8 46), .lit (.int .u8 35), .lit (.int .u8 44), .lit (.int .u8 21), .lit (.int .u8 52), .lit (.int .u8 32), .lit (.int .u8 23), .lit (.int .u8 11), .lit (.int .u8 54), .lit (.int .u8 26), .lit (.int .u8 40), .lit (.int .u8 15), .lit (.int .u8 34), .lit (.int .u8 20), .lit (.int .u8 31), .lit (.int .u8 10), .lit (.int .u8 25), .lit (.int .u8 14), .lit (.int .u8 19), .lit (.int .u8 9), .lit (.int .u8 13), .lit (.int .u8 8), .lit (.int .u8 7), .lit (.int .u8 6)]

/-- 'plumblaw1.BitsFloats': WHATEVER THE INPUT: true; the input reads as it did. -/
def bitsFloatsSpec : ChangeSpec := { name := "bitsFloats", fn := fun _ => fun
  | [d] => { results := [.lit (.bool true)], args := [d] }
  | _ => none }
def bitsFloatsRow : OpenClaim := { program := "ythppkpbfdgfcaabdoor", sum := "2fa5b945b20a0cec8fd1110e1a2e540e4957d7160cb5e16eda4cf4ef0c0d35e4", func := "plumb/plumblaw1.BitsFloats", spec := "bitsFloats", inPlace := ["math.Float64frombits", "math.Float32frombits", "math.Float64bits", "math.Float32bits"], named := ["plumb/bits.binary64", "plumb/bits.binary32"], apart := false, laid := [("plumb/bits.binary64", laid_plumb_bits_binary64), ("plumb/bits.binary32", laid_plumb_bits_binary32)] }
def BitsFloatsSaid : Prop := bitsFloatsRow.holds Tryd.pinned (OpenSpec.ofChange bitsFloatsSpec)

/-- ITS FALSE NEIGHBOUR: 'it returns false'. Refute it at one input. -/
def bitsFloatsWrong : ChangeSpec := { name := "bitsFloats", fn := fun _ => fun
  | [d] => { results := [.lit (.bool false)], args := [d] }
  | _ => none }
def BitsFloatsWrongFalsely : Prop := bitsFloatsRow.holds Tryd.pinned (OpenSpec.ofChange bitsFloatsWrong)

/-- 'plumblaw1.BitsAll': WHATEVER THE INPUT: true; the input reads as it did. -/
def bitsAllSpec : ChangeSpec := { name := "bitsAll", fn := fun _ => fun
  | [d] => { results := [.lit (.bool true)], args := [d] }
  | _ => none }
def bitsAllRow : OpenClaim := { program := "ythppkpbfdgfcaabdoor", sum := "2fa5b945b20a0cec8fd1110e1a2e540e4957d7160cb5e16eda4cf4ef0c0d35e4", func := "plumb/plumblaw1.BitsAll", spec := "bitsAll", inPlace := ["math.Float64frombits", "math.Float32frombits"], named := ["plumb/bits.binary64", "plumb/bits.binary32", "math/bits.deBruijn64tab"], apart := false, laid := [("math/bits.deBruijn64tab", laid_math_bits_deBruijn64tab), ("plumb/bits.binary64", laid_plumb_bits_binary64), ("plumb/bits.binary32", laid_plumb_bits_binary32)] }
def BitsAllSaid : Prop := bitsAllRow.holds Tryd.pinned (OpenSpec.ofChange bitsAllSpec)

/-- ITS FALSE NEIGHBOUR: 'it returns false'. Refute it at one input. -/
def bitsAllWrong : ChangeSpec := { name := "bitsAll", fn := fun _ => fun
  | [d] => { results := [.lit (.bool false)], args := [d] }
  | _ => none }
def BitsAllWrongFalsely : Prop := bitsAllRow.holds Tryd.pinned (OpenSpec.ofChange bitsAllWrong)

/-- 'plumblaw1.BitsBack': WHATEVER THE INPUT: true; the input reads as it did. -/
def bitsBackSpec : ChangeSpec := { name := "bitsBack", fn := fun _ => fun
  | [d] => { results := [.lit (.bool true)], args := [d] }
  | _ => none }
def bitsBackRow : OpenClaim := { program := "ythppkpbfdgfcaabdoor", sum := "2fa5b945b20a0cec8fd1110e1a2e540e4957d7160cb5e16eda4cf4ef0c0d35e4", func := "plumb/plumblaw1.BitsBack", spec := "bitsBack", inPlace := ["math.Float64frombits", "math.Float32frombits"], named := ["plumb/bits.binary64", "math/bits.deBruijn64tab", "plumb/bits.binary32"], apart := false, laid := [("math/bits.deBruijn64tab", laid_math_bits_deBruijn64tab), ("plumb/bits.binary64", laid_plumb_bits_binary64), ("plumb/bits.binary32", laid_plumb_bits_binary32)] }
def BitsBackSaid : Prop := bitsBackRow.holds Tryd.pinned (OpenSpec.ofChange bitsBackSpec)

/-- ITS FALSE NEIGHBOUR: 'it returns false'. Refute it at one input. -/
def bitsBackWrong : ChangeSpec := { name := "bitsBack", fn := fun _ => fun
  | [d] => { results := [.lit (.bool false)], args := [d] }
  | _ => none }
def BitsBackWrongFalsely : Prop := bitsBackRow.holds Tryd.pinned (OpenSpec.ofChange bitsBackWrong)

/-- 'plumblaw1.BitsNext': WHATEVER THE INPUT: true; the input reads as it did. -/
def bitsNextSpec : ChangeSpec := { name := "bitsNext", fn := fun _ => fun
  | [d1, d2] => { results := [.lit (.bool true)], args := [d1, d2] }
  | _ => none }
def bitsNextRow : OpenClaim := { program := "ythppkpbfdgfcaabdoor", sum := "2fa5b945b20a0cec8fd1110e1a2e540e4957d7160cb5e16eda4cf4ef0c0d35e4", func := "plumb/plumblaw1.BitsNext", spec := "bitsNext", inPlace := ["math.Float64frombits", "math.Float32frombits"], named := ["plumb/bits.binary64", "plumb/bits.binary32"], apart := false, laid := [("plumb/bits.binary64", laid_plumb_bits_binary64), ("plumb/bits.binary32", laid_plumb_bits_binary32)] }
def BitsNextSaid : Prop := bitsNextRow.holds Tryd.pinned (OpenSpec.ofChange bitsNextSpec)

/-- ITS FALSE NEIGHBOUR: 'it returns false'. Refute it at one input. -/
def bitsNextWrong : ChangeSpec := { name := "bitsNext", fn := fun _ => fun
  | [d1, d2] => { results := [.lit (.bool false)], args := [d1, d2] }
  | _ => none }
def BitsNextWrongFalsely : Prop := bitsNextRow.holds Tryd.pinned (OpenSpec.ofChange bitsNextWrong)

/-- 'plumblaw1.BitsUlp': WHATEVER THE INPUT: true; the input reads as it did. -/
def bitsUlpSpec : ChangeSpec := { name := "bitsUlp", fn := fun _ => fun
  | [d] => { results := [.lit (.bool true)], args := [d] }
  | _ => none }
def bitsUlpRow : OpenClaim := { program := "ythppkpbfdgfcaabdoor", sum := "2fa5b945b20a0cec8fd1110e1a2e540e4957d7160cb5e16eda4cf4ef0c0d35e4", func := "plumb/plumblaw1.BitsUlp", spec := "bitsUlp", inPlace := ["math.Float64frombits", "math.Float32frombits"], named := ["plumb/bits.binary64", "plumb/bits.binary32", "math/bits.deBruijn64tab"], apart := false, laid := [("math/bits.deBruijn64tab", laid_math_bits_deBruijn64tab), ("plumb/bits.binary64", laid_plumb_bits_binary64), ("plumb/bits.binary32", laid_plumb_bits_binary32)] }
def BitsUlpSaid : Prop := bitsUlpRow.holds Tryd.pinned (OpenSpec.ofChange bitsUlpSpec)

/-- ITS FALSE NEIGHBOUR: 'it returns false'. Refute it at one input. -/
def bitsUlpWrong : ChangeSpec := { name := "bitsUlp", fn := fun _ => fun
  | [d] => { results := [.lit (.bool false)], args := [d] }
  | _ => none }
def BitsUlpWrongFalsely : Prop := bitsUlpRow.holds Tryd.pinned (OpenSpec.ofChange bitsUlpWrong)

/-- 'plumblaw1.BitsChain': WHATEVER THE INPUT: true; the input reads as it did. -/
def bitsChainSpec : ChangeSpec := { name := "bitsChain", fn := fun _ => fun
  | [d1, d2, d3] => { results := [.lit (.bool true)], args := [d1, d2, d3] }
  | _ => none }
def bitsChainRow : OpenClaim := { program := "ythppkpbfdgfcaabdoor", sum := "2fa5b945b20a0cec8fd1110e1a2e540e4957d7160cb5e16eda4cf4ef0c0d35e4", func := "plumb/plumblaw1.BitsChain", spec := "bitsChain", inPlace := ["math.Float64frombits", "math.Float32frombits"], named := ["plumb/bits.binary64", "plumb/bits.binary32"], apart := false, laid := [("plumb/bits.binary64", laid_plumb_bits_binary64), ("plumb/bits.binary32", laid_plumb_bits_binary32)] }
def BitsChainSaid : Prop := bitsChainRow.holds Tryd.pinned (OpenSpec.ofChange bitsChainSpec)

/-- ITS FALSE NEIGHBOUR: 'it returns false'. Refute it at one input. -/
def bitsChainWrong : ChangeSpec := { name := "bitsChain", fn := fun _ => fun
  | [d1, d2, d3] => { results := [.lit (.bool false)], args := [d1, d2, d3] }
  | _ => none }
def BitsChainWrongFalsely : Prop := bitsChainRow.holds Tryd.pinned (OpenSpec.ofChange bitsChainWrong)

/- THE SECOND FORM. 'bulk': how many values and letters a reading holds, each counted each time it is reached (what is shared counts as often as it is met; a slice's spare places count too). A statement '..UptoSaid' is the law's where the arguments, and the package variables that the reading takes, are together of bulk at most 1048576: NARROWER than '..Said'. Prove '..Said' where nothing that the law and all that it calls make is longer than what came in: it says more and counts as full. Else prove '..UptoSaid'. A law counts once. -/
mutual
def uptoBulk {H : Type} : DataW H → Nat
  | .lit (.string bytes) => bytes.length + 1
  | .lit _ => 1
  | .nil => 1
  | .ptr d => uptoBulk d + 1
  | .slice elems spare => uptoBulkAll elems + uptoBulkAll spare + 1
  | .agg parts => uptoBulkAll parts + 1
  | .iface _ d => uptoBulk d + 1
  | .map entries => uptoBulkEntries entries + 1
  | .held _ => 1
def uptoBulkAll {H : Type} : List (DataW H) → Nat
  | [] => 0
  | d :: r => uptoBulk d + uptoBulkAll r
def uptoBulkEntries {H : Type} : List (Lit × DataW H) → Nat
  | [] => 0
  | x :: r => uptoBulkEntry x + uptoBulkEntries r
def uptoBulkEntry {H : Type} : Lit × DataW H → Nat
  | (.string bytes, d) => bytes.length + uptoBulk d + 1
  | (_, d) => uptoBulk d + 1
 end
def uptoSmall : (H : Type) → List (DataW H) → Bool := fun _ ds => decide (uptoBulkAll ds ≤ 1048576)
def OpenSpec.upto (s : _root_.Go.ChangeSpec) : _root_.Go.OpenSpec := { _root_.Go.OpenSpec.ofChange s with cond := some uptoSmall }

/-- 'plumblaw1.BitsFloats', WHERE WHAT IT READS IS OF BULK AT MOST 1048576: true; the input reads as it did. -/
def bitsFloatsUptoRow : OpenClaim := { program := "ythppkpbfdgfcaabdoor", sum := "2fa5b945b20a0cec8fd1110e1a2e540e4957d7160cb5e16eda4cf4ef0c0d35e4", func := "plumb/plumblaw1.BitsFloats", spec := "bitsFloats", inPlace := ["math.Float64frombits", "math.Float32frombits", "math.Float64bits", "math.Float32bits"], named := ["plumb/bits.binary64", "plumb/bits.binary32"], apart := false, laid := [("plumb/bits.binary64", laid_plumb_bits_binary64), ("plumb/bits.binary32", laid_plumb_bits_binary32)], narrowed := true }
def BitsFloatsUptoSaid : Prop := bitsFloatsUptoRow.holds Tryd.pinned (OpenSpec.upto bitsFloatsSpec)

/-- 'plumblaw1.BitsAll', WHERE WHAT IT READS IS OF BULK AT MOST 1048576: true; the input reads as it did. -/
def bitsAllUptoRow : OpenClaim := { program := "ythppkpbfdgfcaabdoor", sum := "2fa5b945b20a0cec8fd1110e1a2e540e4957d7160cb5e16eda4cf4ef0c0d35e4", func := "plumb/plumblaw1.BitsAll", spec := "bitsAll", inPlace := ["math.Float64frombits", "math.Float32frombits"], named := ["plumb/bits.binary64", "plumb/bits.binary32", "math/bits.deBruijn64tab"], apart := false, laid := [("math/bits.deBruijn64tab", laid_math_bits_deBruijn64tab), ("plumb/bits.binary64", laid_plumb_bits_binary64), ("plumb/bits.binary32", laid_plumb_bits_binary32)], narrowed := true }
def BitsAllUptoSaid : Prop := bitsAllUptoRow.holds Tryd.pinned (OpenSpec.upto bitsAllSpec)

/-- 'plumblaw1.BitsBack', WHERE WHAT IT READS IS OF BULK AT MOST 1048576: true; the input reads as it did. -/
def bitsBackUptoRow : OpenClaim := { program := "ythppkpbfdgfcaabdoor", sum := "2fa5b945b20a0cec8fd1110e1a2e540e4957d7160cb5e16eda4cf4ef0c0d35e4", func := "plumb/plumblaw1.BitsBack", spec := "bitsBack", inPlace := ["math.Float64frombits", "math.Float32frombits"], named := ["plumb/bits.binary64", "math/bits.deBruijn64tab", "plumb/bits.binary32"], apart := false, laid := [("math/bits.deBruijn64tab", laid_math_bits_deBruijn64tab), ("plumb/bits.binary64", laid_plumb_bits_binary64), ("plumb/bits.binary32", laid_plumb_bits_binary32)], narrowed := true }
def BitsBackUptoSaid : Prop := bitsBackUptoRow.holds Tryd.pinned (OpenSpec.upto bitsBackSpec)

/-- 'plumblaw1.BitsNext', WHERE WHAT IT READS IS OF BULK AT MOST 1048576: true; the input reads as it did. -/
def bitsNextUptoRow : OpenClaim := { program := "ythppkpbfdgfcaabdoor", sum := "2fa5b945b20a0cec8fd1110e1a2e540e4957d7160cb5e16eda4cf4ef0c0d35e4", func := "plumb/plumblaw1.BitsNext", spec := "bitsNext", inPlace := ["math.Float64frombits", "math.Float32frombits"], named := ["plumb/bits.binary64", "plumb/bits.binary32"], apart := false, laid := [("plumb/bits.binary64", laid_plumb_bits_binary64), ("plumb/bits.binary32", laid_plumb_bits_binary32)], narrowed := true }
def BitsNextUptoSaid : Prop := bitsNextUptoRow.holds Tryd.pinned (OpenSpec.upto bitsNextSpec)

/-- 'plumblaw1.BitsUlp', WHERE WHAT IT READS IS OF BULK AT MOST 1048576: true; the input reads as it did. -/
def bitsUlpUptoRow : OpenClaim := { program := "ythppkpbfdgfcaabdoor", sum := "2fa5b945b20a0cec8fd1110e1a2e540e4957d7160cb5e16eda4cf4ef0c0d35e4", func := "plumb/plumblaw1.BitsUlp", spec := "bitsUlp", inPlace := ["math.Float64frombits", "math.Float32frombits"], named := ["plumb/bits.binary64", "plumb/bits.binary32", "math/bits.deBruijn64tab"], apart := false, laid := [("math/bits.deBruijn64tab", laid_math_bits_deBruijn64tab), ("plumb/bits.binary64", laid_plumb_bits_binary64), ("plumb/bits.binary32", laid_plumb_bits_binary32)], narrowed := true }
def BitsUlpUptoSaid : Prop := bitsUlpUptoRow.holds Tryd.pinned (OpenSpec.upto bitsUlpSpec)

/-- 'plumblaw1.BitsChain', WHERE WHAT IT READS IS OF BULK AT MOST 1048576: true; the input reads as it did. -/
def bitsChainUptoRow : OpenClaim := { program := "ythppkpbfdgfcaabdoor", sum := "2fa5b945b20a0cec8fd1110e1a2e540e4957d7160cb5e16eda4cf4ef0c0d35e4", func := "plumb/plumblaw1.BitsChain", spec := "bitsChain", inPlace := ["math.Float64frombits", "math.Float32frombits"], named := ["plumb/bits.binary64", "plumb/bits.binary32"], apart := false, laid := [("plumb/bits.binary64", laid_plumb_bits_binary64), ("plumb/bits.binary32", laid_plumb_bits_binary32)], narrowed := true }
def BitsChainUptoSaid : Prop := bitsChainUptoRow.holds Tryd.pinned (OpenSpec.upto bitsChainSpec)

end Rows
end Go.Proofs.YthppkpbfdgfcaabDoor
