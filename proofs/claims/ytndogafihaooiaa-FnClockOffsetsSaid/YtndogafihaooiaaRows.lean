/-
  No cell of these rows narrows 'for every input' (looked for: loops, veiled, ifaces, maps, wideKeys, modest, calm, conditions, laid).
  DERIVED. THE GIVEN ROWS OF THIS SEAT. 11 by the template 'for every input the law returns true; each argument reads behind the call as it read before'; 0 by the template 'total and deterministic' (their statements: YtndogafihaooiaaTotals.lean).
  GIVEN WITH THE SEED: the statements are not yours to turn. If you find one false, say at which input.
  Laid BY PROGRAM, IN A SANDBOX (cutbox-rows.mjs): the forced cells as the released guide's own fill.sh prints them over the translation eb2eab92e3d26fc9… (all of the seat's roots in one cut). By AI agents, Wed Nov 11 2026. No macro, syntax, notation, axiom, sorry.
-/
import Derived.Test.YtndogafihaooiaaChecked
import GoSem.Claim
import GoSem.ClaimJoined
import GoSem.ClaimMapViews
import Derived.JoinedTies
import Derived.KernelRfl
namespace Go.Proofs.Ytndogafihaooiaa
/- THE CELL 'sum', in the pinned program and in every row, IS THE sha256 OF THE DUMP (.gsa) THAT YtndogafihaooiaaProg.lean LOADS. Nothing in Lean hashes anything: it is a label: what it is worth is what the hold of that sum in a sandbox is worth. -/
noncomputable def Try.pinned : Pinned := { name := "ytndogafihaooiaa", sum := "eb2eab92e3d26fc9b86d01cc7e7e427fba45f3d5fd57700fa719d853a8d4ac5b", checked := Try.checked }
namespace Rows
def none {H : Type} : Left H := { results := [], args := [] }

/-- 'laws.FnClocks': WHATEVER THE INPUT: true; the input reads as it did. -/
def fnClocksSpec : ChangeSpec := { name := "fnClocks", fn := fun _ => fun
  | [d] => { results := [.lit (.bool true)], args := [d] }
  | _ => none }
def fnClocksRow : OpenClaim := { program := "ytndogafihaooiaa", sum := "eb2eab92e3d26fc9b86d01cc7e7e427fba45f3d5fd57700fa719d853a8d4ac5b", func := "loop.example/g00875/laws.FnClocks", spec := "fnClocks", inPlace := ["slices.overlaps[int]"], unfollowed := true, recurses := true, apart := false }
def FnClocksSaid : Prop := fnClocksRow.holds Try.pinned (OpenSpec.ofChange fnClocksSpec)

/-- ITS FALSE NEIGHBOUR: 'it returns false'. Refute it at one input. -/
def fnClocksWrong : ChangeSpec := { name := "fnClocks", fn := fun _ => fun
  | [d] => { results := [.lit (.bool false)], args := [d] }
  | _ => none }
def FnClocksWrongFalsely : Prop := fnClocksRow.holds Try.pinned (OpenSpec.ofChange fnClocksWrong)

/-- 'laws.FnClockOffsets': WHATEVER THE INPUT: true; the input reads as it did. -/
def fnClockOffsetsSpec : ChangeSpec := { name := "fnClockOffsets", fn := fun _ => fun
  | [d] => { results := [.lit (.bool true)], args := [d] }
  | _ => none }
def fnClockOffsetsRow : OpenClaim := { program := "ytndogafihaooiaa", sum := "eb2eab92e3d26fc9b86d01cc7e7e427fba45f3d5fd57700fa719d853a8d4ac5b", func := "loop.example/g00875/laws.FnClockOffsets", spec := "fnClockOffsets", unfollowed := true, recurses := true, apart := false }
def FnClockOffsetsSaid : Prop := fnClockOffsetsRow.holds Try.pinned (OpenSpec.ofChange fnClockOffsetsSpec)

/-- ITS FALSE NEIGHBOUR: 'it returns false'. Refute it at one input. -/
def fnClockOffsetsWrong : ChangeSpec := { name := "fnClockOffsets", fn := fun _ => fun
  | [d] => { results := [.lit (.bool false)], args := [d] }
  | _ => none }
def FnClockOffsetsWrongFalsely : Prop := fnClockOffsetsRow.holds Try.pinned (OpenSpec.ofChange fnClockOffsetsWrong)

/-- 'laws.FnExactIsValidPairs': WHATEVER THE INPUT: true; the input reads as it did. -/
def fnExactIsValidPairsSpec : ChangeSpec := { name := "fnExactIsValidPairs", fn := fun _ => fun
  | [d] => { results := [.lit (.bool true)], args := [d] }
  | _ => none }
def fnExactIsValidPairsRow : OpenClaim := { program := "ytndogafihaooiaa", sum := "eb2eab92e3d26fc9b86d01cc7e7e427fba45f3d5fd57700fa719d853a8d4ac5b", func := "loop.example/g00875/laws.FnExactIsValidPairs", spec := "fnExactIsValidPairs", unfollowed := true, recurses := true, apart := false }
def FnExactIsValidPairsSaid : Prop := fnExactIsValidPairsRow.holds Try.pinned (OpenSpec.ofChange fnExactIsValidPairsSpec)

/-- ITS FALSE NEIGHBOUR: 'it returns false'. Refute it at one input. -/
def fnExactIsValidPairsWrong : ChangeSpec := { name := "fnExactIsValidPairs", fn := fun _ => fun
  | [d] => { results := [.lit (.bool false)], args := [d] }
  | _ => none }
def FnExactIsValidPairsWrongFalsely : Prop := fnExactIsValidPairsRow.holds Try.pinned (OpenSpec.ofChange fnExactIsValidPairsWrong)

/-- 'laws.FnExactOffsetOf': WHATEVER THE INPUT: true; the input reads as it did. -/
def fnExactOffsetOfSpec : ChangeSpec := { name := "fnExactOffsetOf", fn := fun _ => fun
  | [d] => { results := [.lit (.bool true)], args := [d] }
  | _ => none }
def fnExactOffsetOfRow : OpenClaim := { program := "ytndogafihaooiaa", sum := "eb2eab92e3d26fc9b86d01cc7e7e427fba45f3d5fd57700fa719d853a8d4ac5b", func := "loop.example/g00875/laws.FnExactOffsetOf", spec := "fnExactOffsetOf", inPlace := ["slices.overlaps[int]"], unfollowed := true, recurses := true, apart := false }
def FnExactOffsetOfSaid : Prop := fnExactOffsetOfRow.holds Try.pinned (OpenSpec.ofChange fnExactOffsetOfSpec)

/-- ITS FALSE NEIGHBOUR: 'it returns false'. Refute it at one input. -/
def fnExactOffsetOfWrong : ChangeSpec := { name := "fnExactOffsetOf", fn := fun _ => fun
  | [d] => { results := [.lit (.bool false)], args := [d] }
  | _ => none }
def FnExactOffsetOfWrongFalsely : Prop := fnExactOffsetOfRow.holds Try.pinned (OpenSpec.ofChange fnExactOffsetOfWrong)

/-- 'laws.FnExactDriftOf': WHATEVER THE INPUT: true; the input reads as it did. -/
def fnExactDriftOfSpec : ChangeSpec := { name := "fnExactDriftOf", fn := fun _ => fun
  | [d] => { results := [.lit (.bool true)], args := [d] }
  | _ => none }
def fnExactDriftOfRow : OpenClaim := { program := "ytndogafihaooiaa", sum := "eb2eab92e3d26fc9b86d01cc7e7e427fba45f3d5fd57700fa719d853a8d4ac5b", func := "loop.example/g00875/laws.FnExactDriftOf", spec := "fnExactDriftOf", unfollowed := true, recurses := true, apart := false }
def FnExactDriftOfSaid : Prop := fnExactDriftOfRow.holds Try.pinned (OpenSpec.ofChange fnExactDriftOfSpec)

/-- ITS FALSE NEIGHBOUR: 'it returns false'. Refute it at one input. -/
def fnExactDriftOfWrong : ChangeSpec := { name := "fnExactDriftOf", fn := fun _ => fun
  | [d] => { results := [.lit (.bool false)], args := [d] }
  | _ => none }
def FnExactDriftOfWrongFalsely : Prop := fnExactDriftOfRow.holds Try.pinned (OpenSpec.ofChange fnExactDriftOfWrong)

/-- 'laws.FnExactIsSteadyClock': WHATEVER THE INPUT: true; the input reads as it did. -/
def fnExactIsSteadyClockSpec : ChangeSpec := { name := "fnExactIsSteadyClock", fn := fun _ => fun
  | [d1, d2] => { results := [.lit (.bool true)], args := [d1, d2] }
  | _ => none }
def fnExactIsSteadyClockRow : OpenClaim := { program := "ytndogafihaooiaa", sum := "eb2eab92e3d26fc9b86d01cc7e7e427fba45f3d5fd57700fa719d853a8d4ac5b", func := "loop.example/g00875/laws.FnExactIsSteadyClock", spec := "fnExactIsSteadyClock", inPlace := ["slices.overlaps[int]"], unfollowed := true, recurses := true, apart := false }
def FnExactIsSteadyClockSaid : Prop := fnExactIsSteadyClockRow.holds Try.pinned (OpenSpec.ofChange fnExactIsSteadyClockSpec)

/-- ITS FALSE NEIGHBOUR: 'it returns false'. Refute it at one input. -/
def fnExactIsSteadyClockWrong : ChangeSpec := { name := "fnExactIsSteadyClock", fn := fun _ => fun
  | [d1, d2] => { results := [.lit (.bool false)], args := [d1, d2] }
  | _ => none }
def FnExactIsSteadyClockWrongFalsely : Prop := fnExactIsSteadyClockRow.holds Try.pinned (OpenSpec.ofChange fnExactIsSteadyClockWrong)

/-- 'laws.FnExactWorstPair': WHATEVER THE INPUT: true; the input reads as it did. -/
def fnExactWorstPairSpec : ChangeSpec := { name := "fnExactWorstPair", fn := fun _ => fun
  | [d] => { results := [.lit (.bool true)], args := [d] }
  | _ => none }
def fnExactWorstPairRow : OpenClaim := { program := "ytndogafihaooiaa", sum := "eb2eab92e3d26fc9b86d01cc7e7e427fba45f3d5fd57700fa719d853a8d4ac5b", func := "loop.example/g00875/laws.FnExactWorstPair", spec := "fnExactWorstPair", inPlace := ["slices.overlaps[int]"], unfollowed := true, recurses := true, apart := false }
def FnExactWorstPairSaid : Prop := fnExactWorstPairRow.holds Try.pinned (OpenSpec.ofChange fnExactWorstPairSpec)

/-- ITS FALSE NEIGHBOUR: 'it returns false'. Refute it at one input. -/
def fnExactWorstPairWrong : ChangeSpec := { name := "fnExactWorstPair", fn := fun _ => fun
  | [d] => { results := [.lit (.bool false)], args := [d] }
  | _ => none }
def FnExactWorstPairWrongFalsely : Prop := fnExactWorstPairRow.holds Try.pinned (OpenSpec.ofChange fnExactWorstPairWrong)

/-- 'laws.FnExactClockOffsets': WHATEVER THE INPUT: true; the input reads as it did. -/
def fnExactClockOffsetsSpec : ChangeSpec := { name := "fnExactClockOffsets", fn := fun _ => fun
  | [d1, d2] => { results := [.lit (.bool true)], args := [d1, d2] }
  | _ => none }
def fnExactClockOffsetsRow : OpenClaim := { program := "ytndogafihaooiaa", sum := "eb2eab92e3d26fc9b86d01cc7e7e427fba45f3d5fd57700fa719d853a8d4ac5b", func := "loop.example/g00875/laws.FnExactClockOffsets", spec := "fnExactClockOffsets", unfollowed := true, recurses := true, apart := false }
def FnExactClockOffsetsSaid : Prop := fnExactClockOffsetsRow.holds Try.pinned (OpenSpec.ofChange fnExactClockOffsetsSpec)

/-- ITS FALSE NEIGHBOUR: 'it returns false'. Refute it at one input. -/
def fnExactClockOffsetsWrong : ChangeSpec := { name := "fnExactClockOffsets", fn := fun _ => fun
  | [d1, d2] => { results := [.lit (.bool false)], args := [d1, d2] }
  | _ => none }
def FnExactClockOffsetsWrongFalsely : Prop := fnExactClockOffsetsRow.holds Try.pinned (OpenSpec.ofChange fnExactClockOffsetsWrong)

/-- 'laws.FnExactAddClockLink': WHATEVER THE INPUT: true; the input reads as it did. -/
def fnExactAddClockLinkSpec : ChangeSpec := { name := "fnExactAddClockLink", fn := fun _ => fun
  | [d1, d2, d3] => { results := [.lit (.bool true)], args := [d1, d2, d3] }
  | _ => none }
def fnExactAddClockLinkRow : OpenClaim := { program := "ytndogafihaooiaa", sum := "eb2eab92e3d26fc9b86d01cc7e7e427fba45f3d5fd57700fa719d853a8d4ac5b", func := "loop.example/g00875/laws.FnExactAddClockLink", spec := "fnExactAddClockLink", unfollowed := true, recurses := true, apart := false }
def FnExactAddClockLinkSaid : Prop := fnExactAddClockLinkRow.holds Try.pinned (OpenSpec.ofChange fnExactAddClockLinkSpec)

/-- ITS FALSE NEIGHBOUR: 'it returns false'. Refute it at one input. -/
def fnExactAddClockLinkWrong : ChangeSpec := { name := "fnExactAddClockLink", fn := fun _ => fun
  | [d1, d2, d3] => { results := [.lit (.bool false)], args := [d1, d2, d3] }
  | _ => none }
def FnExactAddClockLinkWrongFalsely : Prop := fnExactAddClockLinkRow.holds Try.pinned (OpenSpec.ofChange fnExactAddClockLinkWrong)

/-- 'laws.FnExactNeedlessLinks': WHATEVER THE INPUT: true; the input reads as it did. -/
def fnExactNeedlessLinksSpec : ChangeSpec := { name := "fnExactNeedlessLinks", fn := fun _ => fun
  | [d1, d2] => { results := [.lit (.bool true)], args := [d1, d2] }
  | _ => none }
def fnExactNeedlessLinksRow : OpenClaim := { program := "ytndogafihaooiaa", sum := "eb2eab92e3d26fc9b86d01cc7e7e427fba45f3d5fd57700fa719d853a8d4ac5b", func := "loop.example/g00875/laws.FnExactNeedlessLinks", spec := "fnExactNeedlessLinks", unfollowed := true, recurses := true, apart := false }
def FnExactNeedlessLinksSaid : Prop := fnExactNeedlessLinksRow.holds Try.pinned (OpenSpec.ofChange fnExactNeedlessLinksSpec)

/-- ITS FALSE NEIGHBOUR: 'it returns false'. Refute it at one input. -/
def fnExactNeedlessLinksWrong : ChangeSpec := { name := "fnExactNeedlessLinks", fn := fun _ => fun
  | [d1, d2] => { results := [.lit (.bool false)], args := [d1, d2] }
  | _ => none }
def FnExactNeedlessLinksWrongFalsely : Prop := fnExactNeedlessLinksRow.holds Try.pinned (OpenSpec.ofChange fnExactNeedlessLinksWrong)

/-- 'laws.FnExactSharedTime': WHATEVER THE INPUT: true; the input reads as it did. -/
def fnExactSharedTimeSpec : ChangeSpec := { name := "fnExactSharedTime", fn := fun _ => fun
  | [d1, d2] => { results := [.lit (.bool true)], args := [d1, d2] }
  | _ => none }
def fnExactSharedTimeRow : OpenClaim := { program := "ytndogafihaooiaa", sum := "eb2eab92e3d26fc9b86d01cc7e7e427fba45f3d5fd57700fa719d853a8d4ac5b", func := "loop.example/g00875/laws.FnExactSharedTime", spec := "fnExactSharedTime", unfollowed := true, recurses := true, apart := false }
def FnExactSharedTimeSaid : Prop := fnExactSharedTimeRow.holds Try.pinned (OpenSpec.ofChange fnExactSharedTimeSpec)

/-- ITS FALSE NEIGHBOUR: 'it returns false'. Refute it at one input. -/
def fnExactSharedTimeWrong : ChangeSpec := { name := "fnExactSharedTime", fn := fun _ => fun
  | [d1, d2] => { results := [.lit (.bool false)], args := [d1, d2] }
  | _ => none }
def FnExactSharedTimeWrongFalsely : Prop := fnExactSharedTimeRow.holds Try.pinned (OpenSpec.ofChange fnExactSharedTimeWrong)

/- THE SECOND FORM. 'bulk': how many values and letters a reading holds, each counted each time it is reached (what is shared counts as often as it is met; a slice's spare places count too). A statement '..UptoSaid' is the law's where the arguments, and the package variables that the reading takes, are together of bulk at most 1048576: NARROWER than '..Said'. Prove '..Said' where nothing that the law and all that it calls make is longer than what came in: it says more and counts as full. Else prove '..UptoSaid'. A law counts once. -/
mutual
def uptoBulk {H : Type} : DataW H → Nat
  | .lit (.string bytes) => bytes.length + 1
  | .lit _ => 1
  | .nil => 1
  | .ptr d => uptoBulk d + 1
  | .slice elems spare => uptoBulkAll elems + uptoBulkAll spare + 1
  | .agg parts => uptoBulkAll parts + 1
  | .iface _ d => uptoBulk d + 1
  | .map entries => uptoBulkEntries entries + 1
  | .held _ => 1
def uptoBulkAll {H : Type} : List (DataW H) → Nat
  | [] => 0
  | d :: r => uptoBulk d + uptoBulkAll r
def uptoBulkEntries {H : Type} : List (Lit × DataW H) → Nat
  | [] => 0
  | x :: r => uptoBulkEntry x + uptoBulkEntries r
def uptoBulkEntry {H : Type} : Lit × DataW H → Nat
  | (.string bytes, d) => bytes.length + uptoBulk d + 1
  | (_, d) => uptoBulk d + 1
 end
def uptoSmall : (H : Type) → List (DataW H) → Bool := fun _ ds => decide (uptoBulkAll ds ≤ 1048576)
def OpenSpec.upto (s : _root_.Go.ChangeSpec) : _root_.Go.OpenSpec := { _root_.Go.OpenSpec.ofChange s with cond := some uptoSmall }

/-- 'laws.FnClocks', WHERE WHAT IT READS IS OF BULK AT MOST 1048576: true; the input reads as it did. -/
def fnClocksUptoRow : OpenClaim := { program := "ytndogafihaooiaa", sum := "eb2eab92e3d26fc9b86d01cc7e7e427fba45f3d5fd57700fa719d853a8d4ac5b", func := "loop.example/g00875/laws.FnClocks", spec := "fnClocks", inPlace := ["slices.overlaps[int]"], unfollowed := true, recurses := true, apart := false, narrowed := true }
def FnClocksUptoSaid : Prop := fnClocksUptoRow.holds Try.pinned (OpenSpec.upto fnClocksSpec)

/-- 'laws.FnClockOffsets', WHERE WHAT IT READS IS OF BULK AT MOST 1048576: true; the input reads as it did. -/
def fnClockOffsetsUptoRow : OpenClaim := { program := "ytndogafihaooiaa", sum := "eb2eab92e3d26fc9b86d01cc7e7e427fba45f3d5fd57700fa719d853a8d4ac5b", func := "loop.example/g00875/laws.FnClockOffsets", spec := "fnClockOffsets", unfollowed := true, recurses := true, apart := false, narrowed := true }
def FnClockOffsetsUptoSaid : Prop := fnClockOffsetsUptoRow.holds Try.pinned (OpenSpec.upto fnClockOffsetsSpec)

/-- 'laws.FnExactIsValidPairs', WHERE WHAT IT READS IS OF BULK AT MOST 1048576: true; the input reads as it did. -/
def fnExactIsValidPairsUptoRow : OpenClaim := { program := "ytndogafihaooiaa", sum := "eb2eab92e3d26fc9b86d01cc7e7e427fba45f3d5fd57700fa719d853a8d4ac5b", func := "loop.example/g00875/laws.FnExactIsValidPairs", spec := "fnExactIsValidPairs", unfollowed := true, recurses := true, apart := false, narrowed := true }
def FnExactIsValidPairsUptoSaid : Prop := fnExactIsValidPairsUptoRow.holds Try.pinned (OpenSpec.upto fnExactIsValidPairsSpec)

/-- 'laws.FnExactOffsetOf', WHERE WHAT IT READS IS OF BULK AT MOST 1048576: true; the input reads as it did. -/
def fnExactOffsetOfUptoRow : OpenClaim := { program := "ytndogafihaooiaa", sum := "eb2eab92e3d26fc9b86d01cc7e7e427fba45f3d5fd57700fa719d853a8d4ac5b", func := "loop.example/g00875/laws.FnExactOffsetOf", spec := "fnExactOffsetOf", inPlace := ["slices.overlaps[int]"], unfollowed := true, recurses := true, apart := false, narrowed := true }
def FnExactOffsetOfUptoSaid : Prop := fnExactOffsetOfUptoRow.holds Try.pinned (OpenSpec.upto fnExactOffsetOfSpec)

/-- 'laws.FnExactDriftOf', WHERE WHAT IT READS IS OF BULK AT MOST 1048576: true; the input reads as it did. -/
def fnExactDriftOfUptoRow : OpenClaim := { program := "ytndogafihaooiaa", sum := "eb2eab92e3d26fc9b86d01cc7e7e427fba45f3d5fd57700fa719d853a8d4ac5b", func := "loop.example/g00875/laws.FnExactDriftOf", spec := "fnExactDriftOf", unfollowed := true, recurses := true, apart := false, narrowed := true }
def FnExactDriftOfUptoSaid : Prop := fnExactDriftOfUptoRow.holds Try.pinned (OpenSpec.upto fnExactDriftOfSpec)

/-- 'laws.FnExactIsSteadyClock', WHERE WHAT IT READS IS OF BULK AT MOST 1048576: true; the input reads as it did. -/
def fnExactIsSteadyClockUptoRow : OpenClaim := { program := "ytndogafihaooiaa", sum := "eb2eab92e3d26fc9b86d01cc7e7e427fba45f3d5fd57700fa719d853a8d4ac5b", func := "loop.example/g00875/laws.FnExactIsSteadyClock", spec := "fnExactIsSteadyClock", inPlace := ["slices.overlaps[int]"], unfollowed := true, recurses := true, apart := false, narrowed := true }
def FnExactIsSteadyClockUptoSaid : Prop := fnExactIsSteadyClockUptoRow.holds Try.pinned (OpenSpec.upto fnExactIsSteadyClockSpec)

/-- 'laws.FnExactWorstPair', WHERE WHAT IT READS IS OF BULK AT MOST 1048576: true; the input reads as it did. -/
def fnExactWorstPairUptoRow : OpenClaim := { program := "ytndogafihaooiaa", sum := "eb2eab92e3d26fc9b86d01cc7e7e427fba45f3d5fd57700fa719d853a8d4ac5b", func := "loop.example/g00875/laws.FnExactWorstPair", spec := "fnExactWorstPair", inPlace := ["slices.overlaps[int]"], unfollowed := true, recurses := true, apart := false, narrowed := true }
def FnExactWorstPairUptoSaid : Prop := fnExactWorstPairUptoRow.holds Try.pinned (OpenSpec.upto fnExactWorstPairSpec)

/-- 'laws.FnExactClockOffsets', WHERE WHAT IT READS IS OF BULK AT MOST 1048576: true; the input reads as it did. -/
def fnExactClockOffsetsUptoRow : OpenClaim := { program := "ytndogafihaooiaa", sum := "eb2eab92e3d26fc9b86d01cc7e7e427fba45f3d5fd57700fa719d853a8d4ac5b", func := "loop.example/g00875/laws.FnExactClockOffsets", spec := "fnExactClockOffsets", unfollowed := true, recurses := true, apart := false, narrowed := true }
def FnExactClockOffsetsUptoSaid : Prop := fnExactClockOffsetsUptoRow.holds Try.pinned (OpenSpec.upto fnExactClockOffsetsSpec)

/-- 'laws.FnExactAddClockLink', WHERE WHAT IT READS IS OF BULK AT MOST 1048576: true; the input reads as it did. -/
def fnExactAddClockLinkUptoRow : OpenClaim := { program := "ytndogafihaooiaa", sum := "eb2eab92e3d26fc9b86d01cc7e7e427fba45f3d5fd57700fa719d853a8d4ac5b", func := "loop.example/g00875/laws.FnExactAddClockLink", spec := "fnExactAddClockLink", unfollowed := true, recurses := true, apart := false, narrowed := true }
def FnExactAddClockLinkUptoSaid : Prop := fnExactAddClockLinkUptoRow.holds Try.pinned (OpenSpec.upto fnExactAddClockLinkSpec)

/-- 'laws.FnExactNeedlessLinks', WHERE WHAT IT READS IS OF BULK AT MOST 1048576: true; the input reads as it did. -/
def fnExactNeedlessLinksUptoRow : OpenClaim := { program := "ytndogafihaooiaa", sum := "eb2eab92e3d26fc9b86d01cc7e7e427fba45f3d5fd57700fa719d853a8d4ac5b", func := "loop.example/g00875/laws.FnExactNeedlessLinks", spec := "fnExactNeedlessLinks", unfollowed := true, recurses := true, apart := false, narrowed := true }
def FnExactNeedlessLinksUptoSaid : Prop := fnExactNeedlessLinksUptoRow.holds Try.pinned (OpenSpec.upto fnExactNeedlessLinksSpec)

/-- 'laws.FnExactSharedTime', WHERE WHAT IT READS IS OF BULK AT MOST 1048576: true; the input reads as it did. -/
def fnExactSharedTimeUptoRow : OpenClaim := { program := "ytndogafihaooiaa", sum := "eb2eab92e3d26fc9b86d01cc7e7e427fba45f3d5fd57700fa719d853a8d4ac5b", func := "loop.example/g00875/laws.FnExactSharedTime", spec := "fnExactSharedTime", unfollowed := true, recurses := true, apart := false, narrowed := true }
def FnExactSharedTimeUptoSaid : Prop := fnExactSharedTimeUptoRow.holds Try.pinned (OpenSpec.upto fnExactSharedTimeSpec)

end Rows
end Go.Proofs.Ytndogafihaooiaa
