/-
  No cell of these rows narrows 'for every input' (looked for: loops, veiled, ifaces, maps, wideKeys, modest, calm, conditions, laid).
  DERIVED. THE GIVEN ROWS OF THIS SEAT. 6 by the template 'for every input the law returns true; each argument reads behind the call as it read before'; 0 by the template 'total and deterministic' (their statements: YtjfhkbpkiblkmaaTotals.lean).
  GIVEN WITH THE SEED: the statements are not yours to turn. If you find one false, say at which input.
  Laid BY PROGRAM, IN A SANDBOX (cutbox-rows.mjs): the forced cells as the released guide's own fill.sh prints them over the translation 7a2896f65ba6dace… (all of the seat's roots in one cut). By AI agents, Wed Nov 11 2026. No macro, syntax, notation, axiom, sorry.
-/
import Derived.Test.YtjfhkbpkiblkmaaChecked
import GoSem.Claim
import GoSem.ClaimJoined
import GoSem.ClaimMapViews
import Derived.JoinedTies
import Derived.KernelRfl
namespace Go.Proofs.Ytjfhkbpkiblkmaa
/- THE CELL 'sum', in the pinned program and in every row, IS THE sha256 OF THE DUMP (.gsa) THAT YtjfhkbpkiblkmaaProg.lean LOADS. Nothing in Lean hashes anything: it is a label: what it is worth is what the hold of that sum in a sandbox is worth. -/
noncomputable def Try.pinned : Pinned := { name := "ytjfhkbpkiblkmaa", sum := "7a2896f65ba6dacec634dc86b1d9e90bcc66664c2e518757ba6df0bc940f7845", checked := Try.checked }
namespace Rows
def none {H : Type} : Left H := { results := [], args := [] }

/-- 'laws.FnExactIsFlightName': WHATEVER THE INPUT: true; the input reads as it did. -/
def fnExactIsFlightNameSpec : ChangeSpec := { name := "fnExactIsFlightName", fn := fun _ => fun
  | [d] => { results := [.lit (.bool true)], args := [d] }
  | _ => none }
def fnExactIsFlightNameRow : OpenClaim := { program := "ytjfhkbpkiblkmaa", sum := "7a2896f65ba6dacec634dc86b1d9e90bcc66664c2e518757ba6df0bc940f7845", func := "loop.example/g00875/laws.FnExactIsFlightName", spec := "fnExactIsFlightName", apart := false }
def FnExactIsFlightNameSaid : Prop := fnExactIsFlightNameRow.holds Try.pinned (OpenSpec.ofChange fnExactIsFlightNameSpec)

/-- ITS FALSE NEIGHBOUR: 'it returns false'. Refute it at one input. -/
def fnExactIsFlightNameWrong : ChangeSpec := { name := "fnExactIsFlightName", fn := fun _ => fun
  | [d] => { results := [.lit (.bool false)], args := [d] }
  | _ => none }
def FnExactIsFlightNameWrongFalsely : Prop := fnExactIsFlightNameRow.holds Try.pinned (OpenSpec.ofChange fnExactIsFlightNameWrong)

/-- 'laws.FnExactLetterCode': WHATEVER THE INPUT: true; the input reads as it did. -/
def fnExactLetterCodeSpec : ChangeSpec := { name := "fnExactLetterCode", fn := fun _ => fun
  | [d] => { results := [.lit (.bool true)], args := [d] }
  | _ => none }
def fnExactLetterCodeRow : OpenClaim := { program := "ytjfhkbpkiblkmaa", sum := "7a2896f65ba6dacec634dc86b1d9e90bcc66664c2e518757ba6df0bc940f7845", func := "loop.example/g00875/laws.FnExactLetterCode", spec := "fnExactLetterCode", apart := false }
def FnExactLetterCodeSaid : Prop := fnExactLetterCodeRow.holds Try.pinned (OpenSpec.ofChange fnExactLetterCodeSpec)

/-- ITS FALSE NEIGHBOUR: 'it returns false'. Refute it at one input. -/
def fnExactLetterCodeWrong : ChangeSpec := { name := "fnExactLetterCode", fn := fun _ => fun
  | [d] => { results := [.lit (.bool false)], args := [d] }
  | _ => none }
def FnExactLetterCodeWrongFalsely : Prop := fnExactLetterCodeRow.holds Try.pinned (OpenSpec.ofChange fnExactLetterCodeWrong)

/-- 'laws.FnExactLetterOf': WHATEVER THE INPUT: true; the input reads as it did. -/
def fnExactLetterOfSpec : ChangeSpec := { name := "fnExactLetterOf", fn := fun _ => fun
  | [d] => { results := [.lit (.bool true)], args := [d] }
  | _ => none }
def fnExactLetterOfRow : OpenClaim := { program := "ytjfhkbpkiblkmaa", sum := "7a2896f65ba6dacec634dc86b1d9e90bcc66664c2e518757ba6df0bc940f7845", func := "loop.example/g00875/laws.FnExactLetterOf", spec := "fnExactLetterOf", apart := false }
def FnExactLetterOfSaid : Prop := fnExactLetterOfRow.holds Try.pinned (OpenSpec.ofChange fnExactLetterOfSpec)

/-- ITS FALSE NEIGHBOUR: 'it returns false'. Refute it at one input. -/
def fnExactLetterOfWrong : ChangeSpec := { name := "fnExactLetterOf", fn := fun _ => fun
  | [d] => { results := [.lit (.bool false)], args := [d] }
  | _ => none }
def FnExactLetterOfWrongFalsely : Prop := fnExactLetterOfRow.holds Try.pinned (OpenSpec.ofChange fnExactLetterOfWrong)

/-- 'laws.FnExactNameBits': WHATEVER THE INPUT: true; the input reads as it did. -/
def fnExactNameBitsSpec : ChangeSpec := { name := "fnExactNameBits", fn := fun _ => fun
  | [d] => { results := [.lit (.bool true)], args := [d] }
  | _ => none }
def fnExactNameBitsRow : OpenClaim := { program := "ytjfhkbpkiblkmaa", sum := "7a2896f65ba6dacec634dc86b1d9e90bcc66664c2e518757ba6df0bc940f7845", func := "loop.example/g00875/laws.FnExactNameBits", spec := "fnExactNameBits", inPlace := ["internal/abi.NoEscape", "internal/bytealg.MakeNoZero"], apart := false }
def FnExactNameBitsSaid : Prop := fnExactNameBitsRow.holds Try.pinned (OpenSpec.ofChange fnExactNameBitsSpec)

/-- ITS FALSE NEIGHBOUR: 'it returns false'. Refute it at one input. -/
def fnExactNameBitsWrong : ChangeSpec := { name := "fnExactNameBits", fn := fun _ => fun
  | [d] => { results := [.lit (.bool false)], args := [d] }
  | _ => none }
def FnExactNameBitsWrongFalsely : Prop := fnExactNameBitsRow.holds Try.pinned (OpenSpec.ofChange fnExactNameBitsWrong)

/-- 'laws.FnExactNamePart': WHATEVER THE INPUT: true; the input reads as it did. -/
def fnExactNamePartSpec : ChangeSpec := { name := "fnExactNamePart", fn := fun _ => fun
  | [d1, d2] => { results := [.lit (.bool true)], args := [d1, d2] }
  | _ => none }
def fnExactNamePartRow : OpenClaim := { program := "ytjfhkbpkiblkmaa", sum := "7a2896f65ba6dacec634dc86b1d9e90bcc66664c2e518757ba6df0bc940f7845", func := "loop.example/g00875/laws.FnExactNamePart", spec := "fnExactNamePart", inPlace := ["internal/abi.NoEscape", "internal/bytealg.MakeNoZero", "internal/bytealg.IndexByteString"], apart := false }
def FnExactNamePartSaid : Prop := fnExactNamePartRow.holds Try.pinned (OpenSpec.ofChange fnExactNamePartSpec)

/-- ITS FALSE NEIGHBOUR: 'it returns false'. Refute it at one input. -/
def fnExactNamePartWrong : ChangeSpec := { name := "fnExactNamePart", fn := fun _ => fun
  | [d1, d2] => { results := [.lit (.bool false)], args := [d1, d2] }
  | _ => none }
def FnExactNamePartWrongFalsely : Prop := fnExactNamePartRow.holds Try.pinned (OpenSpec.ofChange fnExactNamePartWrong)

/-- 'laws.FnExactNearestName': WHATEVER THE INPUT: true; the input reads as it did. -/
def fnExactNearestNameSpec : ChangeSpec := { name := "fnExactNearestName", fn := fun _ => fun
  | [d1, d2] => { results := [.lit (.bool true)], args := [d1, d2] }
  | _ => none }
def fnExactNearestNameRow : OpenClaim := { program := "ytjfhkbpkiblkmaa", sum := "7a2896f65ba6dacec634dc86b1d9e90bcc66664c2e518757ba6df0bc940f7845", func := "loop.example/g00875/laws.FnExactNearestName", spec := "fnExactNearestName", inPlace := ["internal/abi.NoEscape", "internal/bytealg.MakeNoZero", "internal/bytealg.IndexByteString"], apart := false }
def FnExactNearestNameSaid : Prop := fnExactNearestNameRow.holds Try.pinned (OpenSpec.ofChange fnExactNearestNameSpec)

/-- ITS FALSE NEIGHBOUR: 'it returns false'. Refute it at one input. -/
def fnExactNearestNameWrong : ChangeSpec := { name := "fnExactNearestName", fn := fun _ => fun
  | [d1, d2] => { results := [.lit (.bool false)], args := [d1, d2] }
  | _ => none }
def FnExactNearestNameWrongFalsely : Prop := fnExactNearestNameRow.holds Try.pinned (OpenSpec.ofChange fnExactNearestNameWrong)

/- THE SECOND FORM. 'bulk': how many values and letters a reading holds, each counted each time it is reached (what is shared counts as often as it is met; a slice's spare places count too). A statement '..UptoSaid' is the law's where the arguments, and the package variables that the reading takes, are together of bulk at most 1048576: NARROWER than '..Said'. Prove '..Said' where nothing that the law and all that it calls make is longer than what came in: it says more and counts as full. Else prove '..UptoSaid'. A law counts once. -/
mutual
def uptoBulk {H : Type} : DataW H → Nat
  | .lit (.string bytes) => bytes.length + 1
  | .lit _ => 1
  | .nil => 1
  | .ptr d => uptoBulk d + 1
  | .slice elems spare => uptoBulkAll elems + uptoBulkAll spare + 1
  | .agg parts => uptoBulkAll parts + 1
  | .iface _ d => uptoBulk d + 1
  | .map entries => uptoBulkEntries entries + 1
  | .held _ => 1
def uptoBulkAll {H : Type} : List (DataW H) → Nat
  | [] => 0
  | d :: r => uptoBulk d + uptoBulkAll r
def uptoBulkEntries {H : Type} : List (Lit × DataW H) → Nat
  | [] => 0
  | x :: r => uptoBulkEntry x + uptoBulkEntries r
def uptoBulkEntry {H : Type} : Lit × DataW H → Nat
  | (.string bytes, d) => bytes.length + uptoBulk d + 1
  | (_, d) => uptoBulk d + 1
 end
def uptoSmall : (H : Type) → List (DataW H) → Bool := fun _ ds => decide (uptoBulkAll ds ≤ 1048576)
def OpenSpec.upto (s : _root_.Go.ChangeSpec) : _root_.Go.OpenSpec := { _root_.Go.OpenSpec.ofChange s with cond := some uptoSmall }

/-- 'laws.FnExactIsFlightName', WHERE WHAT IT READS IS OF BULK AT MOST 1048576: true; the input reads as it did. -/
def fnExactIsFlightNameUptoRow : OpenClaim := { program := "ytjfhkbpkiblkmaa", sum := "7a2896f65ba6dacec634dc86b1d9e90bcc66664c2e518757ba6df0bc940f7845", func := "loop.example/g00875/laws.FnExactIsFlightName", spec := "fnExactIsFlightName", apart := false, narrowed := true }
def FnExactIsFlightNameUptoSaid : Prop := fnExactIsFlightNameUptoRow.holds Try.pinned (OpenSpec.upto fnExactIsFlightNameSpec)

/-- 'laws.FnExactLetterCode', WHERE WHAT IT READS IS OF BULK AT MOST 1048576: true; the input reads as it did. -/
def fnExactLetterCodeUptoRow : OpenClaim := { program := "ytjfhkbpkiblkmaa", sum := "7a2896f65ba6dacec634dc86b1d9e90bcc66664c2e518757ba6df0bc940f7845", func := "loop.example/g00875/laws.FnExactLetterCode", spec := "fnExactLetterCode", apart := false, narrowed := true }
def FnExactLetterCodeUptoSaid : Prop := fnExactLetterCodeUptoRow.holds Try.pinned (OpenSpec.upto fnExactLetterCodeSpec)

/-- 'laws.FnExactLetterOf', WHERE WHAT IT READS IS OF BULK AT MOST 1048576: true; the input reads as it did. -/
def fnExactLetterOfUptoRow : OpenClaim := { program := "ytjfhkbpkiblkmaa", sum := "7a2896f65ba6dacec634dc86b1d9e90bcc66664c2e518757ba6df0bc940f7845", func := "loop.example/g00875/laws.FnExactLetterOf", spec := "fnExactLetterOf", apart := false, narrowed := true }
def FnExactLetterOfUptoSaid : Prop := fnExactLetterOfUptoRow.holds Try.pinned (OpenSpec.upto fnExactLetterOfSpec)

/-- 'laws.FnExactNameBits', WHERE WHAT IT READS IS OF BULK AT MOST 1048576: true; the input reads as it did. -/
def fnExactNameBitsUptoRow : OpenClaim := { program := "ytjfhkbpkiblkmaa", sum := "7a2896f65ba6dacec634dc86b1d9e90bcc66664c2e518757ba6df0bc940f7845", func := "loop.example/g00875/laws.FnExactNameBits", spec := "fnExactNameBits", inPlace := ["internal/abi.NoEscape", "internal/bytealg.MakeNoZero"], apart := false, narrowed := true }
def FnExactNameBitsUptoSaid : Prop := fnExactNameBitsUptoRow.holds Try.pinned (OpenSpec.upto fnExactNameBitsSpec)

/-- 'laws.FnExactNamePart', WHERE WHAT IT READS IS OF BULK AT MOST 1048576: true; the input reads as it did. -/
def fnExactNamePartUptoRow : OpenClaim := { program := "ytjfhkbpkiblkmaa", sum := "7a2896f65ba6dacec634dc86b1d9e90bcc66664c2e518757ba6df0bc940f7845", func := "loop.example/g00875/laws.FnExactNamePart", spec := "fnExactNamePart", inPlace := ["internal/abi.NoEscape", "internal/bytealg.MakeNoZero", "internal/bytealg.IndexByteString"], apart := false, narrowed := true }
def FnExactNamePartUptoSaid : Prop := fnExactNamePartUptoRow.holds Try.pinned (OpenSpec.upto fnExactNamePartSpec)

/-- 'laws.FnExactNearestName', WHERE WHAT IT READS IS OF BULK AT MOST 1048576: true; the input reads as it did. -/
def fnExactNearestNameUptoRow : OpenClaim := { program := "ytjfhkbpkiblkmaa", sum := "7a2896f65ba6dacec634dc86b1d9e90bcc66664c2e518757ba6df0bc940f7845", func := "loop.example/g00875/laws.FnExactNearestName", spec := "fnExactNearestName", inPlace := ["internal/abi.NoEscape", "internal/bytealg.MakeNoZero", "internal/bytealg.IndexByteString"], apart := false, narrowed := true }
def FnExactNearestNameUptoSaid : Prop := fnExactNearestNameUptoRow.holds Try.pinned (OpenSpec.upto fnExactNearestNameSpec)

end Rows
end Go.Proofs.Ytjfhkbpkiblkmaa
