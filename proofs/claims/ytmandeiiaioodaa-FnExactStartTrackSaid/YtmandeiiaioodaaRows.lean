/-
  No cell of these rows narrows 'for every input' (looked for: loops, veiled, ifaces, maps, wideKeys, modest, calm, conditions, laid).
  DERIVED. THE GIVEN ROWS OF THIS SEAT. 5 by the template 'for every input the law returns true; each argument reads behind the call as it read before'; 0 by the template 'total and deterministic' (their statements: YtmandeiiaioodaaTotals.lean).
  GIVEN WITH THE SEED: the statements are not yours to turn. If you find one false, say at which input.
  Laid BY PROGRAM, IN A SANDBOX (cutbox-rows.mjs): the forced cells as the released guide's own fill.sh prints them over the translation fdd1bfaddae77701… (all of the seat's roots in one cut). By AI agents, Wed Nov 11 2026. No macro, syntax, notation, axiom, sorry.
-/
import Derived.Test.YtmandeiiaioodaaChecked
import GoSem.Claim
import GoSem.ClaimJoined
import GoSem.ClaimMapViews
import Derived.JoinedTies
import Derived.KernelRfl
namespace Go.Proofs.Ytmandeiiaioodaa
/- THE CELL 'sum', in the pinned program and in every row, IS THE sha256 OF THE DUMP (.gsa) THAT YtmandeiiaioodaaProg.lean LOADS. Nothing in Lean hashes anything: it is a label: what it is worth is what the hold of that sum in a sandbox is worth. -/
noncomputable def Try.pinned : Pinned := { name := "ytmandeiiaioodaa", sum := "fdd1bfaddae777019a4b2c271232b2aabacfc4d9a5bdff6e800d740ae4cf24fc", checked := Try.checked }
namespace Rows
def none {H : Type} : Left H := { results := [], args := [] }

/-- 'laws.FnAging': WHATEVER THE INPUT: true; the input reads as it did. -/
def fnAgingSpec : ChangeSpec := { name := "fnAging", fn := fun _ => fun
  | [d] => { results := [.lit (.bool true)], args := [d] }
  | _ => none }
def fnAgingRow : OpenClaim := { program := "ytmandeiiaioodaa", sum := "fdd1bfaddae777019a4b2c271232b2aabacfc4d9a5bdff6e800d740ae4cf24fc", func := "loop.example/g00875/laws.FnAging", spec := "fnAging", inPlace := ["internal/bytealg.IndexByteString", "internal/abi.NoEscape"], unfollowed := true, recurses := true, apart := false }
def FnAgingSaid : Prop := fnAgingRow.holds Try.pinned (OpenSpec.ofChange fnAgingSpec)

/-- ITS FALSE NEIGHBOUR: 'it returns false'. Refute it at one input. -/
def fnAgingWrong : ChangeSpec := { name := "fnAging", fn := fun _ => fun
  | [d] => { results := [.lit (.bool false)], args := [d] }
  | _ => none }
def FnAgingWrongFalsely : Prop := fnAgingRow.holds Try.pinned (OpenSpec.ofChange fnAgingWrong)

/-- 'laws.FnExactIsValidTrack': WHATEVER THE INPUT: true; the input reads as it did. -/
def fnExactIsValidTrackSpec : ChangeSpec := { name := "fnExactIsValidTrack", fn := fun _ => fun
  | [d] => { results := [.lit (.bool true)], args := [d] }
  | _ => none }
def fnExactIsValidTrackRow : OpenClaim := { program := "ytmandeiiaioodaa", sum := "fdd1bfaddae777019a4b2c271232b2aabacfc4d9a5bdff6e800d740ae4cf24fc", func := "loop.example/g00875/laws.FnExactIsValidTrack", spec := "fnExactIsValidTrack", unfollowed := true, recurses := true, apart := false }
def FnExactIsValidTrackSaid : Prop := fnExactIsValidTrackRow.holds Try.pinned (OpenSpec.ofChange fnExactIsValidTrackSpec)

/-- ITS FALSE NEIGHBOUR: 'it returns false'. Refute it at one input. -/
def fnExactIsValidTrackWrong : ChangeSpec := { name := "fnExactIsValidTrack", fn := fun _ => fun
  | [d] => { results := [.lit (.bool false)], args := [d] }
  | _ => none }
def FnExactIsValidTrackWrongFalsely : Prop := fnExactIsValidTrackRow.holds Try.pinned (OpenSpec.ofChange fnExactIsValidTrackWrong)

/-- 'laws.FnExactIsValidTracks': WHATEVER THE INPUT: true; the input reads as it did. -/
def fnExactIsValidTracksSpec : ChangeSpec := { name := "fnExactIsValidTracks", fn := fun _ => fun
  | [d] => { results := [.lit (.bool true)], args := [d] }
  | _ => none }
def fnExactIsValidTracksRow : OpenClaim := { program := "ytmandeiiaioodaa", sum := "fdd1bfaddae777019a4b2c271232b2aabacfc4d9a5bdff6e800d740ae4cf24fc", func := "loop.example/g00875/laws.FnExactIsValidTracks", spec := "fnExactIsValidTracks", unfollowed := true, recurses := true, apart := false }
def FnExactIsValidTracksSaid : Prop := fnExactIsValidTracksRow.holds Try.pinned (OpenSpec.ofChange fnExactIsValidTracksSpec)

/-- ITS FALSE NEIGHBOUR: 'it returns false'. Refute it at one input. -/
def fnExactIsValidTracksWrong : ChangeSpec := { name := "fnExactIsValidTracks", fn := fun _ => fun
  | [d] => { results := [.lit (.bool false)], args := [d] }
  | _ => none }
def FnExactIsValidTracksWrongFalsely : Prop := fnExactIsValidTracksRow.holds Try.pinned (OpenSpec.ofChange fnExactIsValidTracksWrong)

/-- 'laws.FnExactStartTrack': WHATEVER THE INPUT: true; the input reads as it did. -/
def fnExactStartTrackSpec : ChangeSpec := { name := "fnExactStartTrack", fn := fun _ => fun
  | [d1, d2] => { results := [.lit (.bool true)], args := [d1, d2] }
  | _ => none }
def fnExactStartTrackRow : OpenClaim := { program := "ytmandeiiaioodaa", sum := "fdd1bfaddae777019a4b2c271232b2aabacfc4d9a5bdff6e800d740ae4cf24fc", func := "loop.example/g00875/laws.FnExactStartTrack", spec := "fnExactStartTrack", unfollowed := true, recurses := true, apart := false }
def FnExactStartTrackSaid : Prop := fnExactStartTrackRow.holds Try.pinned (OpenSpec.ofChange fnExactStartTrackSpec)

/-- ITS FALSE NEIGHBOUR: 'it returns false'. Refute it at one input. -/
def fnExactStartTrackWrong : ChangeSpec := { name := "fnExactStartTrack", fn := fun _ => fun
  | [d1, d2] => { results := [.lit (.bool false)], args := [d1, d2] }
  | _ => none }
def FnExactStartTrackWrongFalsely : Prop := fnExactStartTrackRow.holds Try.pinned (OpenSpec.ofChange fnExactStartTrackWrong)

/-- 'laws.FnExactConfirmedTracks': WHATEVER THE INPUT: true; the input reads as it did. -/
def fnExactConfirmedTracksSpec : ChangeSpec := { name := "fnExactConfirmedTracks", fn := fun _ => fun
  | [d] => { results := [.lit (.bool true)], args := [d] }
  | _ => none }
def fnExactConfirmedTracksRow : OpenClaim := { program := "ytmandeiiaioodaa", sum := "fdd1bfaddae777019a4b2c271232b2aabacfc4d9a5bdff6e800d740ae4cf24fc", func := "loop.example/g00875/laws.FnExactConfirmedTracks", spec := "fnExactConfirmedTracks", unfollowed := true, recurses := true, apart := false }
def FnExactConfirmedTracksSaid : Prop := fnExactConfirmedTracksRow.holds Try.pinned (OpenSpec.ofChange fnExactConfirmedTracksSpec)

/-- ITS FALSE NEIGHBOUR: 'it returns false'. Refute it at one input. -/
def fnExactConfirmedTracksWrong : ChangeSpec := { name := "fnExactConfirmedTracks", fn := fun _ => fun
  | [d] => { results := [.lit (.bool false)], args := [d] }
  | _ => none }
def FnExactConfirmedTracksWrongFalsely : Prop := fnExactConfirmedTracksRow.holds Try.pinned (OpenSpec.ofChange fnExactConfirmedTracksWrong)

/- THE SECOND FORM. 'bulk': how many values and letters a reading holds, each counted each time it is reached (what is shared counts as often as it is met; a slice's spare places count too). A statement '..UptoSaid' is the law's where the arguments, and the package variables that the reading takes, are together of bulk at most 1048576: NARROWER than '..Said'. Prove '..Said' where nothing that the law and all that it calls make is longer than what came in: it says more and counts as full. Else prove '..UptoSaid'. A law counts once. -/
mutual
def uptoBulk {H : Type} : DataW H → Nat
  | .lit (.string bytes) => bytes.length + 1
  | .lit _ => 1
  | .nil => 1
  | .ptr d => uptoBulk d + 1
  | .slice elems spare => uptoBulkAll elems + uptoBulkAll spare + 1
  | .agg parts => uptoBulkAll parts + 1
  | .iface _ d => uptoBulk d + 1
  | .map entries => uptoBulkEntries entries + 1
  | .held _ => 1
def uptoBulkAll {H : Type} : List (DataW H) → Nat
  | [] => 0
  | d :: r => uptoBulk d + uptoBulkAll r
def uptoBulkEntries {H : Type} : List (Lit × DataW H) → Nat
  | [] => 0
  | x :: r => uptoBulkEntry x + uptoBulkEntries r
def uptoBulkEntry {H : Type} : Lit × DataW H → Nat
  | (.string bytes, d) => bytes.length + uptoBulk d + 1
  | (_, d) => uptoBulk d + 1
 end
def uptoSmall : (H : Type) → List (DataW H) → Bool := fun _ ds => decide (uptoBulkAll ds ≤ 1048576)
def OpenSpec.upto (s : _root_.Go.ChangeSpec) : _root_.Go.OpenSpec := { _root_.Go.OpenSpec.ofChange s with cond := some uptoSmall }

/-- 'laws.FnAging', WHERE WHAT IT READS IS OF BULK AT MOST 1048576: true; the input reads as it did. -/
def fnAgingUptoRow : OpenClaim := { program := "ytmandeiiaioodaa", sum := "fdd1bfaddae777019a4b2c271232b2aabacfc4d9a5bdff6e800d740ae4cf24fc", func := "loop.example/g00875/laws.FnAging", spec := "fnAging", inPlace := ["internal/bytealg.IndexByteString", "internal/abi.NoEscape"], unfollowed := true, recurses := true, apart := false, narrowed := true }
def FnAgingUptoSaid : Prop := fnAgingUptoRow.holds Try.pinned (OpenSpec.upto fnAgingSpec)

/-- 'laws.FnExactIsValidTrack', WHERE WHAT IT READS IS OF BULK AT MOST 1048576: true; the input reads as it did. -/
def fnExactIsValidTrackUptoRow : OpenClaim := { program := "ytmandeiiaioodaa", sum := "fdd1bfaddae777019a4b2c271232b2aabacfc4d9a5bdff6e800d740ae4cf24fc", func := "loop.example/g00875/laws.FnExactIsValidTrack", spec := "fnExactIsValidTrack", unfollowed := true, recurses := true, apart := false, narrowed := true }
def FnExactIsValidTrackUptoSaid : Prop := fnExactIsValidTrackUptoRow.holds Try.pinned (OpenSpec.upto fnExactIsValidTrackSpec)

/-- 'laws.FnExactIsValidTracks', WHERE WHAT IT READS IS OF BULK AT MOST 1048576: true; the input reads as it did. -/
def fnExactIsValidTracksUptoRow : OpenClaim := { program := "ytmandeiiaioodaa", sum := "fdd1bfaddae777019a4b2c271232b2aabacfc4d9a5bdff6e800d740ae4cf24fc", func := "loop.example/g00875/laws.FnExactIsValidTracks", spec := "fnExactIsValidTracks", unfollowed := true, recurses := true, apart := false, narrowed := true }
def FnExactIsValidTracksUptoSaid : Prop := fnExactIsValidTracksUptoRow.holds Try.pinned (OpenSpec.upto fnExactIsValidTracksSpec)

/-- 'laws.FnExactStartTrack', WHERE WHAT IT READS IS OF BULK AT MOST 1048576: true; the input reads as it did. -/
def fnExactStartTrackUptoRow : OpenClaim := { program := "ytmandeiiaioodaa", sum := "fdd1bfaddae777019a4b2c271232b2aabacfc4d9a5bdff6e800d740ae4cf24fc", func := "loop.example/g00875/laws.FnExactStartTrack", spec := "fnExactStartTrack", unfollowed := true, recurses := true, apart := false, narrowed := true }
def FnExactStartTrackUptoSaid : Prop := fnExactStartTrackUptoRow.holds Try.pinned (OpenSpec.upto fnExactStartTrackSpec)

/-- 'laws.FnExactConfirmedTracks', WHERE WHAT IT READS IS OF BULK AT MOST 1048576: true; the input reads as it did. -/
def fnExactConfirmedTracksUptoRow : OpenClaim := { program := "ytmandeiiaioodaa", sum := "fdd1bfaddae777019a4b2c271232b2aabacfc4d9a5bdff6e800d740ae4cf24fc", func := "loop.example/g00875/laws.FnExactConfirmedTracks", spec := "fnExactConfirmedTracks", unfollowed := true, recurses := true, apart := false, narrowed := true }
def FnExactConfirmedTracksUptoSaid : Prop := fnExactConfirmedTracksUptoRow.holds Try.pinned (OpenSpec.upto fnExactConfirmedTracksSpec)

end Rows
end Go.Proofs.Ytmandeiiaioodaa
