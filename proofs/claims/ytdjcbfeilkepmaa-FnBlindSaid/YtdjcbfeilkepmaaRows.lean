/-
  No cell of these rows narrows 'for every input' (looked for: loops, veiled, ifaces, maps, wideKeys, modest, calm, conditions, laid).
  DERIVED. THE GIVEN ROWS OF THIS SEAT. 4 by the template 'for every input the law returns true; each argument reads behind the call as it read before'; 0 by the template 'total and deterministic' (their statements: YtdjcbfeilkepmaaTotals.lean).
  GIVEN WITH THE SEED: the statements are not yours to turn. If you find one false, say at which input.
  Laid BY PROGRAM, IN A SANDBOX (cutbox-rows.mjs): the forced cells as the released guide's own fill.sh prints them over the translation 55fc45ca94222d37… (all of the seat's roots in one cut). By AI agents, Wed Nov 11 2026. No macro, syntax, notation, axiom, sorry.
-/
import Derived.Test.YtdjcbfeilkepmaaChecked
import GoSem.Claim
import GoSem.ClaimJoined
import GoSem.ClaimMapViews
import Derived.JoinedTies
import Derived.KernelRfl
namespace Go.Proofs.Ytdjcbfeilkepmaa
/- THE CELL 'sum', in the pinned program and in every row, IS THE sha256 OF THE DUMP (.gsa) THAT YtdjcbfeilkepmaaProg.lean LOADS. Nothing in Lean hashes anything: it is a label: what it is worth is what the hold of that sum in a sandbox is worth. -/
noncomputable def Try.pinned : Pinned := { name := "ytdjcbfeilkepmaa", sum := "55fc45ca94222d37c95429d1dd74b3be7cfd1b221752124b6ae210117761798f", checked := Try.checked }
namespace Rows
def none {H : Type} : Left H := { results := [], args := [] }

/-- 'laws.FnBlind': WHATEVER THE INPUT: true; the input reads as it did. -/
def fnBlindSpec : ChangeSpec := { name := "fnBlind", fn := fun _ => fun
  | [d] => { results := [.lit (.bool true)], args := [d] }
  | _ => none }
def fnBlindRow : OpenClaim := { program := "ytdjcbfeilkepmaa", sum := "55fc45ca94222d37c95429d1dd74b3be7cfd1b221752124b6ae210117761798f", func := "loop.example/g00875/laws.FnBlind", spec := "fnBlind", unfollowed := true, recurses := true, plainKeys := false, apart := false }
def FnBlindSaid : Prop := fnBlindRow.holds Try.pinned (OpenSpec.ofChange fnBlindSpec)

/-- ITS FALSE NEIGHBOUR: 'it returns false'. Refute it at one input. -/
def fnBlindWrong : ChangeSpec := { name := "fnBlind", fn := fun _ => fun
  | [d] => { results := [.lit (.bool false)], args := [d] }
  | _ => none }
def FnBlindWrongFalsely : Prop := fnBlindRow.holds Try.pinned (OpenSpec.ofChange fnBlindWrong)

/-- 'laws.FnGroups': WHATEVER THE INPUT: true; the input reads as it did. -/
def fnGroupsSpec : ChangeSpec := { name := "fnGroups", fn := fun _ => fun
  | [d] => { results := [.lit (.bool true)], args := [d] }
  | _ => none }
def fnGroupsRow : OpenClaim := { program := "ytdjcbfeilkepmaa", sum := "55fc45ca94222d37c95429d1dd74b3be7cfd1b221752124b6ae210117761798f", func := "loop.example/g00875/laws.FnGroups", spec := "fnGroups", unfollowed := true, recurses := true, plainKeys := false, apart := false }
def FnGroupsSaid : Prop := fnGroupsRow.holds Try.pinned (OpenSpec.ofChange fnGroupsSpec)

/-- ITS FALSE NEIGHBOUR: 'it returns false'. Refute it at one input. -/
def fnGroupsWrong : ChangeSpec := { name := "fnGroups", fn := fun _ => fun
  | [d] => { results := [.lit (.bool false)], args := [d] }
  | _ => none }
def FnGroupsWrongFalsely : Prop := fnGroupsRow.holds Try.pinned (OpenSpec.ofChange fnGroupsWrong)

/-- 'laws.FnExactBlindPoints': WHATEVER THE INPUT: true; the input reads as it did. -/
def fnExactBlindPointsSpec : ChangeSpec := { name := "fnExactBlindPoints", fn := fun _ => fun
  | [d] => { results := [.lit (.bool true)], args := [d] }
  | _ => none }
def fnExactBlindPointsRow : OpenClaim := { program := "ytdjcbfeilkepmaa", sum := "55fc45ca94222d37c95429d1dd74b3be7cfd1b221752124b6ae210117761798f", func := "loop.example/g00875/laws.FnExactBlindPoints", spec := "fnExactBlindPoints", unfollowed := true, recurses := true, plainKeys := false, apart := false }
def FnExactBlindPointsSaid : Prop := fnExactBlindPointsRow.holds Try.pinned (OpenSpec.ofChange fnExactBlindPointsSpec)

/-- ITS FALSE NEIGHBOUR: 'it returns false'. Refute it at one input. -/
def fnExactBlindPointsWrong : ChangeSpec := { name := "fnExactBlindPoints", fn := fun _ => fun
  | [d] => { results := [.lit (.bool false)], args := [d] }
  | _ => none }
def FnExactBlindPointsWrongFalsely : Prop := fnExactBlindPointsRow.holds Try.pinned (OpenSpec.ofChange fnExactBlindPointsWrong)

/-- 'laws.FnExactReceiveAll': WHATEVER THE INPUT: true; the input reads as it did. -/
def fnExactReceiveAllSpec : ChangeSpec := { name := "fnExactReceiveAll", fn := fun _ => fun
  | [d1, d2, d3] => { results := [.lit (.bool true)], args := [d1, d2, d3] }
  | _ => none }
def fnExactReceiveAllRow : OpenClaim := { program := "ytdjcbfeilkepmaa", sum := "55fc45ca94222d37c95429d1dd74b3be7cfd1b221752124b6ae210117761798f", func := "loop.example/g00875/laws.FnExactReceiveAll", spec := "fnExactReceiveAll", inPlace := ["internal/bytealg.IndexByteString", "internal/abi.NoEscape"], unfollowed := true, recurses := true, plainKeys := false, apart := false }
def FnExactReceiveAllSaid : Prop := fnExactReceiveAllRow.holds Try.pinned (OpenSpec.ofChange fnExactReceiveAllSpec)

/-- ITS FALSE NEIGHBOUR: 'it returns false'. Refute it at one input. -/
def fnExactReceiveAllWrong : ChangeSpec := { name := "fnExactReceiveAll", fn := fun _ => fun
  | [d1, d2, d3] => { results := [.lit (.bool false)], args := [d1, d2, d3] }
  | _ => none }
def FnExactReceiveAllWrongFalsely : Prop := fnExactReceiveAllRow.holds Try.pinned (OpenSpec.ofChange fnExactReceiveAllWrong)

/- THE SECOND FORM. 'bulk': how many values and letters a reading holds, each counted each time it is reached (what is shared counts as often as it is met; a slice's spare places count too). A statement '..UptoSaid' is the law's where the arguments, and the package variables that the reading takes, are together of bulk at most 1048576: NARROWER than '..Said'. Prove '..Said' where nothing that the law and all that it calls make is longer than what came in: it says more and counts as full. Else prove '..UptoSaid'. A law counts once. -/
mutual
def uptoBulk {H : Type} : DataW H → Nat
  | .lit (.string bytes) => bytes.length + 1
  | .lit _ => 1
  | .nil => 1
  | .ptr d => uptoBulk d + 1
  | .slice elems spare => uptoBulkAll elems + uptoBulkAll spare + 1
  | .agg parts => uptoBulkAll parts + 1
  | .iface _ d => uptoBulk d + 1
  | .map entries => uptoBulkEntries entries + 1
  | .held _ => 1
def uptoBulkAll {H : Type} : List (DataW H) → Nat
  | [] => 0
  | d :: r => uptoBulk d + uptoBulkAll r
def uptoBulkEntries {H : Type} : List (Lit × DataW H) → Nat
  | [] => 0
  | x :: r => uptoBulkEntry x + uptoBulkEntries r
def uptoBulkEntry {H : Type} : Lit × DataW H → Nat
  | (.string bytes, d) => bytes.length + uptoBulk d + 1
  | (_, d) => uptoBulk d + 1
 end
def uptoSmall : (H : Type) → List (DataW H) → Bool := fun _ ds => decide (uptoBulkAll ds ≤ 1048576)
def OpenSpec.upto (s : _root_.Go.ChangeSpec) : _root_.Go.OpenSpec := { _root_.Go.OpenSpec.ofChange s with cond := some uptoSmall }

/-- 'laws.FnBlind', WHERE WHAT IT READS IS OF BULK AT MOST 1048576: true; the input reads as it did. -/
def fnBlindUptoRow : OpenClaim := { program := "ytdjcbfeilkepmaa", sum := "55fc45ca94222d37c95429d1dd74b3be7cfd1b221752124b6ae210117761798f", func := "loop.example/g00875/laws.FnBlind", spec := "fnBlind", unfollowed := true, recurses := true, plainKeys := false, apart := false, narrowed := true }
def FnBlindUptoSaid : Prop := fnBlindUptoRow.holds Try.pinned (OpenSpec.upto fnBlindSpec)

/-- 'laws.FnGroups', WHERE WHAT IT READS IS OF BULK AT MOST 1048576: true; the input reads as it did. -/
def fnGroupsUptoRow : OpenClaim := { program := "ytdjcbfeilkepmaa", sum := "55fc45ca94222d37c95429d1dd74b3be7cfd1b221752124b6ae210117761798f", func := "loop.example/g00875/laws.FnGroups", spec := "fnGroups", unfollowed := true, recurses := true, plainKeys := false, apart := false, narrowed := true }
def FnGroupsUptoSaid : Prop := fnGroupsUptoRow.holds Try.pinned (OpenSpec.upto fnGroupsSpec)

/-- 'laws.FnExactBlindPoints', WHERE WHAT IT READS IS OF BULK AT MOST 1048576: true; the input reads as it did. -/
def fnExactBlindPointsUptoRow : OpenClaim := { program := "ytdjcbfeilkepmaa", sum := "55fc45ca94222d37c95429d1dd74b3be7cfd1b221752124b6ae210117761798f", func := "loop.example/g00875/laws.FnExactBlindPoints", spec := "fnExactBlindPoints", unfollowed := true, recurses := true, plainKeys := false, apart := false, narrowed := true }
def FnExactBlindPointsUptoSaid : Prop := fnExactBlindPointsUptoRow.holds Try.pinned (OpenSpec.upto fnExactBlindPointsSpec)

/-- 'laws.FnExactReceiveAll', WHERE WHAT IT READS IS OF BULK AT MOST 1048576: true; the input reads as it did. -/
def fnExactReceiveAllUptoRow : OpenClaim := { program := "ytdjcbfeilkepmaa", sum := "55fc45ca94222d37c95429d1dd74b3be7cfd1b221752124b6ae210117761798f", func := "loop.example/g00875/laws.FnExactReceiveAll", spec := "fnExactReceiveAll", inPlace := ["internal/bytealg.IndexByteString", "internal/abi.NoEscape"], unfollowed := true, recurses := true, plainKeys := false, apart := false, narrowed := true }
def FnExactReceiveAllUptoSaid : Prop := fnExactReceiveAllUptoRow.holds Try.pinned (OpenSpec.upto fnExactReceiveAllSpec)

end Rows
end Go.Proofs.Ytdjcbfeilkepmaa
