/-
  No cell of these rows narrows 'for every input' (looked for: loops, veiled, ifaces, maps, wideKeys, modest, calm, conditions, laid).
  DERIVED. THE GIVEN ROWS OF THIS SEAT. 8 by the template 'for every input the law returns true; each argument reads behind the call as it read before'; 0 by the template 'total and deterministic' (their statements: YtpjpdfannnafbaaTotals.lean).
  GIVEN WITH THE SEED: the statements are not yours to turn. If you find one false, say at which input.
  Laid BY PROGRAM, IN A SANDBOX (cutbox-rows.mjs): the forced cells as the released guide's own fill.sh prints them over the translation 6fa94968f72439f0… (all of the seat's roots in one cut). By AI agents, Wed Nov 11 2026. No macro, syntax, notation, axiom, sorry.
-/
import Derived.Test.YtpjpdfannnafbaaChecked
import GoSem.Claim
import GoSem.ClaimJoined
import GoSem.ClaimMapViews
import Derived.JoinedTies
import Derived.KernelRfl
namespace Go.Proofs.Ytpjpdfannnafbaa
/- THE CELL 'sum', in the pinned program and in every row, IS THE sha256 OF THE DUMP (.gsa) THAT YtpjpdfannnafbaaProg.lean LOADS. Nothing in Lean hashes anything: it is a label: what it is worth is what the hold of that sum in a sandbox is worth. -/
noncomputable def Try.pinned : Pinned := { name := "ytpjpdfannnafbaa", sum := "6fa94968f72439f049257b8de2ea36325c090cfc57c583f27a53fc286fc606ee", checked := Try.checked }
namespace Rows
def none {H : Type} : Left H := { results := [], args := [] }

/-- 'laws.FnAddresses': WHATEVER THE INPUT: true; the input reads as it did. -/
def fnAddressesSpec : ChangeSpec := { name := "fnAddresses", fn := fun _ => fun
  | [d] => { results := [.lit (.bool true)], args := [d] }
  | _ => none }
def fnAddressesRow : OpenClaim := { program := "ytpjpdfannnafbaa", sum := "6fa94968f72439f049257b8de2ea36325c090cfc57c583f27a53fc286fc606ee", func := "loop.example/g00875/laws.FnAddresses", spec := "fnAddresses", inPlace := ["internal/abi.NoEscape", "internal/bytealg.IndexByteString"], recurses := true, apart := false }
def FnAddressesSaid : Prop := fnAddressesRow.holds Try.pinned (OpenSpec.ofChange fnAddressesSpec)

/-- ITS FALSE NEIGHBOUR: 'it returns false'. Refute it at one input. -/
def fnAddressesWrong : ChangeSpec := { name := "fnAddresses", fn := fun _ => fun
  | [d] => { results := [.lit (.bool false)], args := [d] }
  | _ => none }
def FnAddressesWrongFalsely : Prop := fnAddressesRow.holds Try.pinned (OpenSpec.ofChange fnAddressesWrong)

/-- 'laws.FnExactIsValidFrame': WHATEVER THE INPUT: true; the input reads as it did. -/
def fnExactIsValidFrameSpec : ChangeSpec := { name := "fnExactIsValidFrame", fn := fun _ => fun
  | [d] => { results := [.lit (.bool true)], args := [d] }
  | _ => none }
def fnExactIsValidFrameRow : OpenClaim := { program := "ytpjpdfannnafbaa", sum := "6fa94968f72439f049257b8de2ea36325c090cfc57c583f27a53fc286fc606ee", func := "loop.example/g00875/laws.FnExactIsValidFrame", spec := "fnExactIsValidFrame", apart := false }
def FnExactIsValidFrameSaid : Prop := fnExactIsValidFrameRow.holds Try.pinned (OpenSpec.ofChange fnExactIsValidFrameSpec)

/-- ITS FALSE NEIGHBOUR: 'it returns false'. Refute it at one input. -/
def fnExactIsValidFrameWrong : ChangeSpec := { name := "fnExactIsValidFrame", fn := fun _ => fun
  | [d] => { results := [.lit (.bool false)], args := [d] }
  | _ => none }
def FnExactIsValidFrameWrongFalsely : Prop := fnExactIsValidFrameRow.holds Try.pinned (OpenSpec.ofChange fnExactIsValidFrameWrong)

/-- 'laws.FnExactEncodeFrame': WHATEVER THE INPUT: true; the input reads as it did. -/
def fnExactEncodeFrameSpec : ChangeSpec := { name := "fnExactEncodeFrame", fn := fun _ => fun
  | [d] => { results := [.lit (.bool true)], args := [d] }
  | _ => none }
def fnExactEncodeFrameRow : OpenClaim := { program := "ytpjpdfannnafbaa", sum := "6fa94968f72439f049257b8de2ea36325c090cfc57c583f27a53fc286fc606ee", func := "loop.example/g00875/laws.FnExactEncodeFrame", spec := "fnExactEncodeFrame", inPlace := ["internal/abi.NoEscape", "internal/bytealg.IndexByteString"], apart := false }
def FnExactEncodeFrameSaid : Prop := fnExactEncodeFrameRow.holds Try.pinned (OpenSpec.ofChange fnExactEncodeFrameSpec)

/-- ITS FALSE NEIGHBOUR: 'it returns false'. Refute it at one input. -/
def fnExactEncodeFrameWrong : ChangeSpec := { name := "fnExactEncodeFrame", fn := fun _ => fun
  | [d] => { results := [.lit (.bool false)], args := [d] }
  | _ => none }
def FnExactEncodeFrameWrongFalsely : Prop := fnExactEncodeFrameRow.holds Try.pinned (OpenSpec.ofChange fnExactEncodeFrameWrong)

/-- 'laws.FnExactDecodeFrame': WHATEVER THE INPUT: true; the input reads as it did. -/
def fnExactDecodeFrameSpec : ChangeSpec := { name := "fnExactDecodeFrame", fn := fun _ => fun
  | [d] => { results := [.lit (.bool true)], args := [d] }
  | _ => none }
def fnExactDecodeFrameRow : OpenClaim := { program := "ytpjpdfannnafbaa", sum := "6fa94968f72439f049257b8de2ea36325c090cfc57c583f27a53fc286fc606ee", func := "loop.example/g00875/laws.FnExactDecodeFrame", spec := "fnExactDecodeFrame", inPlace := ["internal/bytealg.IndexByteString", "internal/abi.NoEscape"], apart := false }
def FnExactDecodeFrameSaid : Prop := fnExactDecodeFrameRow.holds Try.pinned (OpenSpec.ofChange fnExactDecodeFrameSpec)

/-- ITS FALSE NEIGHBOUR: 'it returns false'. Refute it at one input. -/
def fnExactDecodeFrameWrong : ChangeSpec := { name := "fnExactDecodeFrame", fn := fun _ => fun
  | [d] => { results := [.lit (.bool false)], args := [d] }
  | _ => none }
def FnExactDecodeFrameWrongFalsely : Prop := fnExactDecodeFrameRow.holds Try.pinned (OpenSpec.ofChange fnExactDecodeFrameWrong)

/-- 'laws.FnExactRepairFrame': WHATEVER THE INPUT: true; the input reads as it did. -/
def fnExactRepairFrameSpec : ChangeSpec := { name := "fnExactRepairFrame", fn := fun _ => fun
  | [d] => { results := [.lit (.bool true)], args := [d] }
  | _ => none }
def fnExactRepairFrameRow : OpenClaim := { program := "ytpjpdfannnafbaa", sum := "6fa94968f72439f049257b8de2ea36325c090cfc57c583f27a53fc286fc606ee", func := "loop.example/g00875/laws.FnExactRepairFrame", spec := "fnExactRepairFrame", inPlace := ["internal/bytealg.IndexByteString", "internal/abi.NoEscape"], apart := false }
def FnExactRepairFrameSaid : Prop := fnExactRepairFrameRow.holds Try.pinned (OpenSpec.ofChange fnExactRepairFrameSpec)

/-- ITS FALSE NEIGHBOUR: 'it returns false'. Refute it at one input. -/
def fnExactRepairFrameWrong : ChangeSpec := { name := "fnExactRepairFrame", fn := fun _ => fun
  | [d] => { results := [.lit (.bool false)], args := [d] }
  | _ => none }
def FnExactRepairFrameWrongFalsely : Prop := fnExactRepairFrameRow.holds Try.pinned (OpenSpec.ofChange fnExactRepairFrameWrong)

/-- 'laws.FnExactFrameDistance': WHATEVER THE INPUT: true; the input reads as it did. -/
def fnExactFrameDistanceSpec : ChangeSpec := { name := "fnExactFrameDistance", fn := fun _ => fun
  | [d1, d2] => { results := [.lit (.bool true)], args := [d1, d2] }
  | _ => none }
def fnExactFrameDistanceRow : OpenClaim := { program := "ytpjpdfannnafbaa", sum := "6fa94968f72439f049257b8de2ea36325c090cfc57c583f27a53fc286fc606ee", func := "loop.example/g00875/laws.FnExactFrameDistance", spec := "fnExactFrameDistance", inPlace := ["internal/abi.NoEscape", "internal/bytealg.IndexByteString"], apart := false }
def FnExactFrameDistanceSaid : Prop := fnExactFrameDistanceRow.holds Try.pinned (OpenSpec.ofChange fnExactFrameDistanceSpec)

/-- ITS FALSE NEIGHBOUR: 'it returns false'. Refute it at one input. -/
def fnExactFrameDistanceWrong : ChangeSpec := { name := "fnExactFrameDistance", fn := fun _ => fun
  | [d1, d2] => { results := [.lit (.bool false)], args := [d1, d2] }
  | _ => none }
def FnExactFrameDistanceWrongFalsely : Prop := fnExactFrameDistanceRow.holds Try.pinned (OpenSpec.ofChange fnExactFrameDistanceWrong)

/-- 'laws.FnExactFramesOf': WHATEVER THE INPUT: true; the input reads as it did. -/
def fnExactFramesOfSpec : ChangeSpec := { name := "fnExactFramesOf", fn := fun _ => fun
  | [d1, d2] => { results := [.lit (.bool true)], args := [d1, d2] }
  | _ => none }
def fnExactFramesOfRow : OpenClaim := { program := "ytpjpdfannnafbaa", sum := "6fa94968f72439f049257b8de2ea36325c090cfc57c583f27a53fc286fc606ee", func := "loop.example/g00875/laws.FnExactFramesOf", spec := "fnExactFramesOf", apart := false }
def FnExactFramesOfSaid : Prop := fnExactFramesOfRow.holds Try.pinned (OpenSpec.ofChange fnExactFramesOfSpec)

/-- ITS FALSE NEIGHBOUR: 'it returns false'. Refute it at one input. -/
def fnExactFramesOfWrong : ChangeSpec := { name := "fnExactFramesOf", fn := fun _ => fun
  | [d1, d2] => { results := [.lit (.bool false)], args := [d1, d2] }
  | _ => none }
def FnExactFramesOfWrongFalsely : Prop := fnExactFramesOfRow.holds Try.pinned (OpenSpec.ofChange fnExactFramesOfWrong)

/-- 'laws.FnExactAddressesOf': WHATEVER THE INPUT: true; the input reads as it did. -/
def fnExactAddressesOfSpec : ChangeSpec := { name := "fnExactAddressesOf", fn := fun _ => fun
  | [d] => { results := [.lit (.bool true)], args := [d] }
  | _ => none }
def fnExactAddressesOfRow : OpenClaim := { program := "ytpjpdfannnafbaa", sum := "6fa94968f72439f049257b8de2ea36325c090cfc57c583f27a53fc286fc606ee", func := "loop.example/g00875/laws.FnExactAddressesOf", spec := "fnExactAddressesOf", recurses := true, apart := false }
def FnExactAddressesOfSaid : Prop := fnExactAddressesOfRow.holds Try.pinned (OpenSpec.ofChange fnExactAddressesOfSpec)

/-- ITS FALSE NEIGHBOUR: 'it returns false'. Refute it at one input. -/
def fnExactAddressesOfWrong : ChangeSpec := { name := "fnExactAddressesOf", fn := fun _ => fun
  | [d] => { results := [.lit (.bool false)], args := [d] }
  | _ => none }
def FnExactAddressesOfWrongFalsely : Prop := fnExactAddressesOfRow.holds Try.pinned (OpenSpec.ofChange fnExactAddressesOfWrong)

/- THE SECOND FORM. 'bulk': how many values and letters a reading holds, each counted each time it is reached (what is shared counts as often as it is met; a slice's spare places count too). A statement '..UptoSaid' is the law's where the arguments, and the package variables that the reading takes, are together of bulk at most 1048576: NARROWER than '..Said'. Prove '..Said' where nothing that the law and all that it calls make is longer than what came in: it says more and counts as full. Else prove '..UptoSaid'. A law counts once. -/
mutual
def uptoBulk {H : Type} : DataW H → Nat
  | .lit (.string bytes) => bytes.length + 1
  | .lit _ => 1
  | .nil => 1
  | .ptr d => uptoBulk d + 1
  | .slice elems spare => uptoBulkAll elems + uptoBulkAll spare + 1
  | .agg parts => uptoBulkAll parts + 1
  | .iface _ d => uptoBulk d + 1
  | .map entries => uptoBulkEntries entries + 1
  | .held _ => 1
def uptoBulkAll {H : Type} : List (DataW H) → Nat
  | [] => 0
  | d :: r => uptoBulk d + uptoBulkAll r
def uptoBulkEntries {H : Type} : List (Lit × DataW H) → Nat
  | [] => 0
  | x :: r => uptoBulkEntry x + uptoBulkEntries r
def uptoBulkEntry {H : Type} : Lit × DataW H → Nat
  | (.string bytes, d) => bytes.length + uptoBulk d + 1
  | (_, d) => uptoBulk d + 1
 end
def uptoSmall : (H : Type) → List (DataW H) → Bool := fun _ ds => decide (uptoBulkAll ds ≤ 1048576)
def OpenSpec.upto (s : _root_.Go.ChangeSpec) : _root_.Go.OpenSpec := { _root_.Go.OpenSpec.ofChange s with cond := some uptoSmall }

/-- 'laws.FnAddresses', WHERE WHAT IT READS IS OF BULK AT MOST 1048576: true; the input reads as it did. -/
def fnAddressesUptoRow : OpenClaim := { program := "ytpjpdfannnafbaa", sum := "6fa94968f72439f049257b8de2ea36325c090cfc57c583f27a53fc286fc606ee", func := "loop.example/g00875/laws.FnAddresses", spec := "fnAddresses", inPlace := ["internal/abi.NoEscape", "internal/bytealg.IndexByteString"], recurses := true, apart := false, narrowed := true }
def FnAddressesUptoSaid : Prop := fnAddressesUptoRow.holds Try.pinned (OpenSpec.upto fnAddressesSpec)

/-- 'laws.FnExactIsValidFrame', WHERE WHAT IT READS IS OF BULK AT MOST 1048576: true; the input reads as it did. -/
def fnExactIsValidFrameUptoRow : OpenClaim := { program := "ytpjpdfannnafbaa", sum := "6fa94968f72439f049257b8de2ea36325c090cfc57c583f27a53fc286fc606ee", func := "loop.example/g00875/laws.FnExactIsValidFrame", spec := "fnExactIsValidFrame", apart := false, narrowed := true }
def FnExactIsValidFrameUptoSaid : Prop := fnExactIsValidFrameUptoRow.holds Try.pinned (OpenSpec.upto fnExactIsValidFrameSpec)

/-- 'laws.FnExactEncodeFrame', WHERE WHAT IT READS IS OF BULK AT MOST 1048576: true; the input reads as it did. -/
def fnExactEncodeFrameUptoRow : OpenClaim := { program := "ytpjpdfannnafbaa", sum := "6fa94968f72439f049257b8de2ea36325c090cfc57c583f27a53fc286fc606ee", func := "loop.example/g00875/laws.FnExactEncodeFrame", spec := "fnExactEncodeFrame", inPlace := ["internal/abi.NoEscape", "internal/bytealg.IndexByteString"], apart := false, narrowed := true }
def FnExactEncodeFrameUptoSaid : Prop := fnExactEncodeFrameUptoRow.holds Try.pinned (OpenSpec.upto fnExactEncodeFrameSpec)

/-- 'laws.FnExactDecodeFrame', WHERE WHAT IT READS IS OF BULK AT MOST 1048576: true; the input reads as it did. -/
def fnExactDecodeFrameUptoRow : OpenClaim := { program := "ytpjpdfannnafbaa", sum := "6fa94968f72439f049257b8de2ea36325c090cfc57c583f27a53fc286fc606ee", func := "loop.example/g00875/laws.FnExactDecodeFrame", spec := "fnExactDecodeFrame", inPlace := ["internal/bytealg.IndexByteString", "internal/abi.NoEscape"], apart := false, narrowed := true }
def FnExactDecodeFrameUptoSaid : Prop := fnExactDecodeFrameUptoRow.holds Try.pinned (OpenSpec.upto fnExactDecodeFrameSpec)

/-- 'laws.FnExactRepairFrame', WHERE WHAT IT READS IS OF BULK AT MOST 1048576: true; the input reads as it did. -/
def fnExactRepairFrameUptoRow : OpenClaim := { program := "ytpjpdfannnafbaa", sum := "6fa94968f72439f049257b8de2ea36325c090cfc57c583f27a53fc286fc606ee", func := "loop.example/g00875/laws.FnExactRepairFrame", spec := "fnExactRepairFrame", inPlace := ["internal/bytealg.IndexByteString", "internal/abi.NoEscape"], apart := false, narrowed := true }
def FnExactRepairFrameUptoSaid : Prop := fnExactRepairFrameUptoRow.holds Try.pinned (OpenSpec.upto fnExactRepairFrameSpec)

/-- 'laws.FnExactFrameDistance', WHERE WHAT IT READS IS OF BULK AT MOST 1048576: true; the input reads as it did. -/
def fnExactFrameDistanceUptoRow : OpenClaim := { program := "ytpjpdfannnafbaa", sum := "6fa94968f72439f049257b8de2ea36325c090cfc57c583f27a53fc286fc606ee", func := "loop.example/g00875/laws.FnExactFrameDistance", spec := "fnExactFrameDistance", inPlace := ["internal/abi.NoEscape", "internal/bytealg.IndexByteString"], apart := false, narrowed := true }
def FnExactFrameDistanceUptoSaid : Prop := fnExactFrameDistanceUptoRow.holds Try.pinned (OpenSpec.upto fnExactFrameDistanceSpec)

/-- 'laws.FnExactFramesOf', WHERE WHAT IT READS IS OF BULK AT MOST 1048576: true; the input reads as it did. -/
def fnExactFramesOfUptoRow : OpenClaim := { program := "ytpjpdfannnafbaa", sum := "6fa94968f72439f049257b8de2ea36325c090cfc57c583f27a53fc286fc606ee", func := "loop.example/g00875/laws.FnExactFramesOf", spec := "fnExactFramesOf", apart := false, narrowed := true }
def FnExactFramesOfUptoSaid : Prop := fnExactFramesOfUptoRow.holds Try.pinned (OpenSpec.upto fnExactFramesOfSpec)

/-- 'laws.FnExactAddressesOf', WHERE WHAT IT READS IS OF BULK AT MOST 1048576: true; the input reads as it did. -/
def fnExactAddressesOfUptoRow : OpenClaim := { program := "ytpjpdfannnafbaa", sum := "6fa94968f72439f049257b8de2ea36325c090cfc57c583f27a53fc286fc606ee", func := "loop.example/g00875/laws.FnExactAddressesOf", spec := "fnExactAddressesOf", recurses := true, apart := false, narrowed := true }
def FnExactAddressesOfUptoSaid : Prop := fnExactAddressesOfUptoRow.holds Try.pinned (OpenSpec.upto fnExactAddressesOfSpec)

end Rows
end Go.Proofs.Ytpjpdfannnafbaa
