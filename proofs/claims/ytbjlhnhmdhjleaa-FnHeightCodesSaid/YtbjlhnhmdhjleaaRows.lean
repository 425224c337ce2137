/-
  No cell of these rows narrows 'for every input' (looked for: loops, veiled, ifaces, maps, wideKeys, modest, calm, conditions, laid).
  DERIVED. THE GIVEN ROWS OF THIS SEAT. 8 by the template 'for every input the law returns true; each argument reads behind the call as it read before'; 0 by the template 'total and deterministic' (their statements: YtbjlhnhmdhjleaaTotals.lean).
  GIVEN WITH THE SEED: the statements are not yours to turn. If you find one false, say at which input.
  Laid BY PROGRAM, IN A SANDBOX (cutbox-rows.mjs): the forced cells as the released guide's own fill.sh prints them over the translation ecfc3684cf91b486… (all of the seat's roots in one cut). By AI agents, Wed Nov 11 2026. No macro, syntax, notation, axiom, sorry.
-/
import Derived.Test.YtbjlhnhmdhjleaaChecked
import GoSem.Claim
import GoSem.ClaimJoined
import GoSem.ClaimMapViews
import Derived.JoinedTies
import Derived.KernelRfl
namespace Go.Proofs.Ytbjlhnhmdhjleaa
/- THE CELL 'sum', in the pinned program and in every row, IS THE sha256 OF THE DUMP (.gsa) THAT YtbjlhnhmdhjleaaProg.lean LOADS. Nothing in Lean hashes anything: it is a label: what it is worth is what the hold of that sum in a sandbox is worth. -/
noncomputable def Try.pinned : Pinned := { name := "ytbjlhnhmdhjleaa", sum := "ecfc3684cf91b48653a3593138db1d25c71e112d048e7d8cf6b4c0a1caf55de4", checked := Try.checked }
namespace Rows
def none {H : Type} : Left H := { results := [], args := [] }

/-- 'laws.FnHeightCodes': WHATEVER THE INPUT: true; the input reads as it did. -/
def fnHeightCodesSpec : ChangeSpec := { name := "fnHeightCodes", fn := fun _ => fun
  | [d] => { results := [.lit (.bool true)], args := [d] }
  | _ => none }
def fnHeightCodesRow : OpenClaim := { program := "ytbjlhnhmdhjleaa", sum := "ecfc3684cf91b48653a3593138db1d25c71e112d048e7d8cf6b4c0a1caf55de4", func := "loop.example/g00875/laws.FnHeightCodes", spec := "fnHeightCodes", apart := false }
def FnHeightCodesSaid : Prop := fnHeightCodesRow.holds Try.pinned (OpenSpec.ofChange fnHeightCodesSpec)

/-- ITS FALSE NEIGHBOUR: 'it returns false'. Refute it at one input. -/
def fnHeightCodesWrong : ChangeSpec := { name := "fnHeightCodes", fn := fun _ => fun
  | [d] => { results := [.lit (.bool false)], args := [d] }
  | _ => none }
def FnHeightCodesWrongFalsely : Prop := fnHeightCodesRow.holds Try.pinned (OpenSpec.ofChange fnHeightCodesWrong)

/-- 'laws.FnExactGrayOf': WHATEVER THE INPUT: true; the input reads as it did. -/
def fnExactGrayOfSpec : ChangeSpec := { name := "fnExactGrayOf", fn := fun _ => fun
  | [d] => { results := [.lit (.bool true)], args := [d] }
  | _ => none }
def fnExactGrayOfRow : OpenClaim := { program := "ytbjlhnhmdhjleaa", sum := "ecfc3684cf91b48653a3593138db1d25c71e112d048e7d8cf6b4c0a1caf55de4", func := "loop.example/g00875/laws.FnExactGrayOf", spec := "fnExactGrayOf", apart := false }
def FnExactGrayOfSaid : Prop := fnExactGrayOfRow.holds Try.pinned (OpenSpec.ofChange fnExactGrayOfSpec)

/-- ITS FALSE NEIGHBOUR: 'it returns false'. Refute it at one input. -/
def fnExactGrayOfWrong : ChangeSpec := { name := "fnExactGrayOf", fn := fun _ => fun
  | [d] => { results := [.lit (.bool false)], args := [d] }
  | _ => none }
def FnExactGrayOfWrongFalsely : Prop := fnExactGrayOfRow.holds Try.pinned (OpenSpec.ofChange fnExactGrayOfWrong)

/-- 'laws.FnExactFromGray': WHATEVER THE INPUT: true; the input reads as it did. -/
def fnExactFromGraySpec : ChangeSpec := { name := "fnExactFromGray", fn := fun _ => fun
  | [d] => { results := [.lit (.bool true)], args := [d] }
  | _ => none }
def fnExactFromGrayRow : OpenClaim := { program := "ytbjlhnhmdhjleaa", sum := "ecfc3684cf91b48653a3593138db1d25c71e112d048e7d8cf6b4c0a1caf55de4", func := "loop.example/g00875/laws.FnExactFromGray", spec := "fnExactFromGray", apart := false }
def FnExactFromGraySaid : Prop := fnExactFromGrayRow.holds Try.pinned (OpenSpec.ofChange fnExactFromGraySpec)

/-- ITS FALSE NEIGHBOUR: 'it returns false'. Refute it at one input. -/
def fnExactFromGrayWrong : ChangeSpec := { name := "fnExactFromGray", fn := fun _ => fun
  | [d] => { results := [.lit (.bool false)], args := [d] }
  | _ => none }
def FnExactFromGrayWrongFalsely : Prop := fnExactFromGrayRow.holds Try.pinned (OpenSpec.ofChange fnExactFromGrayWrong)

/-- 'laws.FnExactEncodeHeight': WHATEVER THE INPUT: true; the input reads as it did. -/
def fnExactEncodeHeightSpec : ChangeSpec := { name := "fnExactEncodeHeight", fn := fun _ => fun
  | [d1, d2] => { results := [.lit (.bool true)], args := [d1, d2] }
  | _ => none }
def fnExactEncodeHeightRow : OpenClaim := { program := "ytbjlhnhmdhjleaa", sum := "ecfc3684cf91b48653a3593138db1d25c71e112d048e7d8cf6b4c0a1caf55de4", func := "loop.example/g00875/laws.FnExactEncodeHeight", spec := "fnExactEncodeHeight", apart := false }
def FnExactEncodeHeightSaid : Prop := fnExactEncodeHeightRow.holds Try.pinned (OpenSpec.ofChange fnExactEncodeHeightSpec)

/-- ITS FALSE NEIGHBOUR: 'it returns false'. Refute it at one input. -/
def fnExactEncodeHeightWrong : ChangeSpec := { name := "fnExactEncodeHeight", fn := fun _ => fun
  | [d1, d2] => { results := [.lit (.bool false)], args := [d1, d2] }
  | _ => none }
def FnExactEncodeHeightWrongFalsely : Prop := fnExactEncodeHeightRow.holds Try.pinned (OpenSpec.ofChange fnExactEncodeHeightWrong)

/-- 'laws.FnExactDecodeHeight': WHATEVER THE INPUT: true; the input reads as it did. -/
def fnExactDecodeHeightSpec : ChangeSpec := { name := "fnExactDecodeHeight", fn := fun _ => fun
  | [d] => { results := [.lit (.bool true)], args := [d] }
  | _ => none }
def fnExactDecodeHeightRow : OpenClaim := { program := "ytbjlhnhmdhjleaa", sum := "ecfc3684cf91b48653a3593138db1d25c71e112d048e7d8cf6b4c0a1caf55de4", func := "loop.example/g00875/laws.FnExactDecodeHeight", spec := "fnExactDecodeHeight", apart := false }
def FnExactDecodeHeightSaid : Prop := fnExactDecodeHeightRow.holds Try.pinned (OpenSpec.ofChange fnExactDecodeHeightSpec)

/-- ITS FALSE NEIGHBOUR: 'it returns false'. Refute it at one input. -/
def fnExactDecodeHeightWrong : ChangeSpec := { name := "fnExactDecodeHeight", fn := fun _ => fun
  | [d] => { results := [.lit (.bool false)], args := [d] }
  | _ => none }
def FnExactDecodeHeightWrongFalsely : Prop := fnExactDecodeHeightRow.holds Try.pinned (OpenSpec.ofChange fnExactDecodeHeightWrong)

/-- 'laws.FnExactNearestHeight': WHATEVER THE INPUT: true; the input reads as it did. -/
def fnExactNearestHeightSpec : ChangeSpec := { name := "fnExactNearestHeight", fn := fun _ => fun
  | [d1, d2] => { results := [.lit (.bool true)], args := [d1, d2] }
  | _ => none }
def fnExactNearestHeightRow : OpenClaim := { program := "ytbjlhnhmdhjleaa", sum := "ecfc3684cf91b48653a3593138db1d25c71e112d048e7d8cf6b4c0a1caf55de4", func := "loop.example/g00875/laws.FnExactNearestHeight", spec := "fnExactNearestHeight", apart := false }
def FnExactNearestHeightSaid : Prop := fnExactNearestHeightRow.holds Try.pinned (OpenSpec.ofChange fnExactNearestHeightSpec)

/-- ITS FALSE NEIGHBOUR: 'it returns false'. Refute it at one input. -/
def fnExactNearestHeightWrong : ChangeSpec := { name := "fnExactNearestHeight", fn := fun _ => fun
  | [d1, d2] => { results := [.lit (.bool false)], args := [d1, d2] }
  | _ => none }
def FnExactNearestHeightWrongFalsely : Prop := fnExactNearestHeightRow.holds Try.pinned (OpenSpec.ofChange fnExactNearestHeightWrong)

/-- 'laws.FnExactChangedBits': WHATEVER THE INPUT: true; the input reads as it did. -/
def fnExactChangedBitsSpec : ChangeSpec := { name := "fnExactChangedBits", fn := fun _ => fun
  | [d1, d2] => { results := [.lit (.bool true)], args := [d1, d2] }
  | _ => none }
def fnExactChangedBitsRow : OpenClaim := { program := "ytbjlhnhmdhjleaa", sum := "ecfc3684cf91b48653a3593138db1d25c71e112d048e7d8cf6b4c0a1caf55de4", func := "loop.example/g00875/laws.FnExactChangedBits", spec := "fnExactChangedBits", apart := false }
def FnExactChangedBitsSaid : Prop := fnExactChangedBitsRow.holds Try.pinned (OpenSpec.ofChange fnExactChangedBitsSpec)

/-- ITS FALSE NEIGHBOUR: 'it returns false'. Refute it at one input. -/
def fnExactChangedBitsWrong : ChangeSpec := { name := "fnExactChangedBits", fn := fun _ => fun
  | [d1, d2] => { results := [.lit (.bool false)], args := [d1, d2] }
  | _ => none }
def FnExactChangedBitsWrongFalsely : Prop := fnExactChangedBitsRow.holds Try.pinned (OpenSpec.ofChange fnExactChangedBitsWrong)

/-- 'laws.FnExactClimbRate': WHATEVER THE INPUT: true; the input reads as it did. -/
def fnExactClimbRateSpec : ChangeSpec := { name := "fnExactClimbRate", fn := fun _ => fun
  | [d1, d2, d3, d4] => { results := [.lit (.bool true)], args := [d1, d2, d3, d4] }
  | _ => none }
def fnExactClimbRateRow : OpenClaim := { program := "ytbjlhnhmdhjleaa", sum := "ecfc3684cf91b48653a3593138db1d25c71e112d048e7d8cf6b4c0a1caf55de4", func := "loop.example/g00875/laws.FnExactClimbRate", spec := "fnExactClimbRate", apart := false }
def FnExactClimbRateSaid : Prop := fnExactClimbRateRow.holds Try.pinned (OpenSpec.ofChange fnExactClimbRateSpec)

/-- ITS FALSE NEIGHBOUR: 'it returns false'. Refute it at one input. -/
def fnExactClimbRateWrong : ChangeSpec := { name := "fnExactClimbRate", fn := fun _ => fun
  | [d1, d2, d3, d4] => { results := [.lit (.bool false)], args := [d1, d2, d3, d4] }
  | _ => none }
def FnExactClimbRateWrongFalsely : Prop := fnExactClimbRateRow.holds Try.pinned (OpenSpec.ofChange fnExactClimbRateWrong)

/- THE SECOND FORM. 'bulk': how many values and letters a reading holds, each counted each time it is reached (what is shared counts as often as it is met; a slice's spare places count too). A statement '..UptoSaid' is the law's where the arguments, and the package variables that the reading takes, are together of bulk at most 1048576: NARROWER than '..Said'. Prove '..Said' where nothing that the law and all that it calls make is longer than what came in: it says more and counts as full. Else prove '..UptoSaid'. A law counts once. -/
mutual
def uptoBulk {H : Type} : DataW H → Nat
  | .lit (.string bytes) => bytes.length + 1
  | .lit _ => 1
  | .nil => 1
  | .ptr d => uptoBulk d + 1
  | .slice elems spare => uptoBulkAll elems + uptoBulkAll spare + 1
  | .agg parts => uptoBulkAll parts + 1
  | .iface _ d => uptoBulk d + 1
  | .map entries => uptoBulkEntries entries + 1
  | .held _ => 1
def uptoBulkAll {H : Type} : List (DataW H) → Nat
  | [] => 0
  | d :: r => uptoBulk d + uptoBulkAll r
def uptoBulkEntries {H : Type} : List (Lit × DataW H) → Nat
  | [] => 0
  | x :: r => uptoBulkEntry x + uptoBulkEntries r
def uptoBulkEntry {H : Type} : Lit × DataW H → Nat
  | (.string bytes, d) => bytes.length + uptoBulk d + 1
  | (_, d) => uptoBulk d + 1
 end
def uptoSmall : (H : Type) → List (DataW H) → Bool := fun _ ds => decide (uptoBulkAll ds ≤ 1048576)
def OpenSpec.upto (s : _root_.Go.ChangeSpec) : _root_.Go.OpenSpec := { _root_.Go.OpenSpec.ofChange s with cond := some uptoSmall }

/-- 'laws.FnHeightCodes', WHERE WHAT IT READS IS OF BULK AT MOST 1048576: true; the input reads as it did. -/
def fnHeightCodesUptoRow : OpenClaim := { program := "ytbjlhnhmdhjleaa", sum := "ecfc3684cf91b48653a3593138db1d25c71e112d048e7d8cf6b4c0a1caf55de4", func := "loop.example/g00875/laws.FnHeightCodes", spec := "fnHeightCodes", apart := false, narrowed := true }
def FnHeightCodesUptoSaid : Prop := fnHeightCodesUptoRow.holds Try.pinned (OpenSpec.upto fnHeightCodesSpec)

/-- 'laws.FnExactGrayOf', WHERE WHAT IT READS IS OF BULK AT MOST 1048576: true; the input reads as it did. -/
def fnExactGrayOfUptoRow : OpenClaim := { program := "ytbjlhnhmdhjleaa", sum := "ecfc3684cf91b48653a3593138db1d25c71e112d048e7d8cf6b4c0a1caf55de4", func := "loop.example/g00875/laws.FnExactGrayOf", spec := "fnExactGrayOf", apart := false, narrowed := true }
def FnExactGrayOfUptoSaid : Prop := fnExactGrayOfUptoRow.holds Try.pinned (OpenSpec.upto fnExactGrayOfSpec)

/-- 'laws.FnExactFromGray', WHERE WHAT IT READS IS OF BULK AT MOST 1048576: true; the input reads as it did. -/
def fnExactFromGrayUptoRow : OpenClaim := { program := "ytbjlhnhmdhjleaa", sum := "ecfc3684cf91b48653a3593138db1d25c71e112d048e7d8cf6b4c0a1caf55de4", func := "loop.example/g00875/laws.FnExactFromGray", spec := "fnExactFromGray", apart := false, narrowed := true }
def FnExactFromGrayUptoSaid : Prop := fnExactFromGrayUptoRow.holds Try.pinned (OpenSpec.upto fnExactFromGraySpec)

/-- 'laws.FnExactEncodeHeight', WHERE WHAT IT READS IS OF BULK AT MOST 1048576: true; the input reads as it did. -/
def fnExactEncodeHeightUptoRow : OpenClaim := { program := "ytbjlhnhmdhjleaa", sum := "ecfc3684cf91b48653a3593138db1d25c71e112d048e7d8cf6b4c0a1caf55de4", func := "loop.example/g00875/laws.FnExactEncodeHeight", spec := "fnExactEncodeHeight", apart := false, narrowed := true }
def FnExactEncodeHeightUptoSaid : Prop := fnExactEncodeHeightUptoRow.holds Try.pinned (OpenSpec.upto fnExactEncodeHeightSpec)

/-- 'laws.FnExactDecodeHeight', WHERE WHAT IT READS IS OF BULK AT MOST 1048576: true; the input reads as it did. -/
def fnExactDecodeHeightUptoRow : OpenClaim := { program := "ytbjlhnhmdhjleaa", sum := "ecfc3684cf91b48653a3593138db1d25c71e112d048e7d8cf6b4c0a1caf55de4", func := "loop.example/g00875/laws.FnExactDecodeHeight", spec := "fnExactDecodeHeight", apart := false, narrowed := true }
def FnExactDecodeHeightUptoSaid : Prop := fnExactDecodeHeightUptoRow.holds Try.pinned (OpenSpec.upto fnExactDecodeHeightSpec)

/-- 'laws.FnExactNearestHeight', WHERE WHAT IT READS IS OF BULK AT MOST 1048576: true; the input reads as it did. -/
def fnExactNearestHeightUptoRow : OpenClaim := { program := "ytbjlhnhmdhjleaa", sum := "ecfc3684cf91b48653a3593138db1d25c71e112d048e7d8cf6b4c0a1caf55de4", func := "loop.example/g00875/laws.FnExactNearestHeight", spec := "fnExactNearestHeight", apart := false, narrowed := true }
def FnExactNearestHeightUptoSaid : Prop := fnExactNearestHeightUptoRow.holds Try.pinned (OpenSpec.upto fnExactNearestHeightSpec)

/-- 'laws.FnExactChangedBits', WHERE WHAT IT READS IS OF BULK AT MOST 1048576: true; the input reads as it did. -/
def fnExactChangedBitsUptoRow : OpenClaim := { program := "ytbjlhnhmdhjleaa", sum := "ecfc3684cf91b48653a3593138db1d25c71e112d048e7d8cf6b4c0a1caf55de4", func := "loop.example/g00875/laws.FnExactChangedBits", spec := "fnExactChangedBits", apart := false, narrowed := true }
def FnExactChangedBitsUptoSaid : Prop := fnExactChangedBitsUptoRow.holds Try.pinned (OpenSpec.upto fnExactChangedBitsSpec)

/-- 'laws.FnExactClimbRate', WHERE WHAT IT READS IS OF BULK AT MOST 1048576: true; the input reads as it did. -/
def fnExactClimbRateUptoRow : OpenClaim := { program := "ytbjlhnhmdhjleaa", sum := "ecfc3684cf91b48653a3593138db1d25c71e112d048e7d8cf6b4c0a1caf55de4", func := "loop.example/g00875/laws.FnExactClimbRate", spec := "fnExactClimbRate", apart := false, narrowed := true }
def FnExactClimbRateUptoSaid : Prop := fnExactClimbRateUptoRow.holds Try.pinned (OpenSpec.upto fnExactClimbRateSpec)

end Rows
end Go.Proofs.Ytbjlhnhmdhjleaa
