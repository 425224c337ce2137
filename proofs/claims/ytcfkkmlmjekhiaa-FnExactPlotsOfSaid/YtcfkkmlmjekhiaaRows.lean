/-
  No cell of these rows narrows 'for every input' (looked for: loops, veiled, ifaces, maps, wideKeys, modest, calm, conditions, laid).
  DERIVED. THE GIVEN ROWS OF THIS SEAT. 8 by the template 'for every input the law returns true; each argument reads behind the call as it read before'; 0 by the template 'total and deterministic' (their statements: YtcfkkmlmjekhiaaTotals.lean).
  GIVEN WITH THE SEED: the statements are not yours to turn. If you find one false, say at which input.
  Laid BY PROGRAM, IN A SANDBOX (cutbox-rows.mjs): the forced cells as the released guide's own fill.sh prints them over the translation 3397a51c605a81d8… (all of the seat's roots in one cut). By AI agents, Wed Nov 11 2026. No macro, syntax, notation, axiom, sorry.
-/
import Derived.Test.YtcfkkmlmjekhiaaChecked
import GoSem.Claim
import GoSem.ClaimJoined
import GoSem.ClaimMapViews
import Derived.JoinedTies
import Derived.KernelRfl
namespace Go.Proofs.Ytcfkkmlmjekhiaa
/- THE CELL 'sum', in the pinned program and in every row, IS THE sha256 OF THE DUMP (.gsa) THAT YtcfkkmlmjekhiaaProg.lean LOADS. Nothing in Lean hashes anything: it is a label: what it is worth is what the hold of that sum in a sandbox is worth. -/
noncomputable def Try.pinned : Pinned := { name := "ytcfkkmlmjekhiaa", sum := "3397a51c605a81d83b06370f487669e6d877bec6d57cba887358a8f15847035d", checked := Try.checked }
namespace Rows
def none {H : Type} : Left H := { results := [], args := [] }

/-- 'laws.FnGroups': WHATEVER THE INPUT: true; the input reads as it did. -/
def fnGroupsSpec : ChangeSpec := { name := "fnGroups", fn := fun _ => fun
  | [d] => { results := [.lit (.bool true)], args := [d] }
  | _ => none }
def fnGroupsRow : OpenClaim := { program := "ytcfkkmlmjekhiaa", sum := "3397a51c605a81d83b06370f487669e6d877bec6d57cba887358a8f15847035d", func := "loop.example/g00875/laws.FnGroups", spec := "fnGroups", unfollowed := true, recurses := true, apart := false }
def FnGroupsSaid : Prop := fnGroupsRow.holds Try.pinned (OpenSpec.ofChange fnGroupsSpec)

/-- ITS FALSE NEIGHBOUR: 'it returns false'. Refute it at one input. -/
def fnGroupsWrong : ChangeSpec := { name := "fnGroups", fn := fun _ => fun
  | [d] => { results := [.lit (.bool false)], args := [d] }
  | _ => none }
def FnGroupsWrongFalsely : Prop := fnGroupsRow.holds Try.pinned (OpenSpec.ofChange fnGroupsWrong)

/-- 'laws.FnExactIsValidSightings': WHATEVER THE INPUT: true; the input reads as it did. -/
def fnExactIsValidSightingsSpec : ChangeSpec := { name := "fnExactIsValidSightings", fn := fun _ => fun
  | [d] => { results := [.lit (.bool true)], args := [d] }
  | _ => none }
def fnExactIsValidSightingsRow : OpenClaim := { program := "ytcfkkmlmjekhiaa", sum := "3397a51c605a81d83b06370f487669e6d877bec6d57cba887358a8f15847035d", func := "loop.example/g00875/laws.FnExactIsValidSightings", spec := "fnExactIsValidSightings", unfollowed := true, recurses := true, apart := false }
def FnExactIsValidSightingsSaid : Prop := fnExactIsValidSightingsRow.holds Try.pinned (OpenSpec.ofChange fnExactIsValidSightingsSpec)

/-- ITS FALSE NEIGHBOUR: 'it returns false'. Refute it at one input. -/
def fnExactIsValidSightingsWrong : ChangeSpec := { name := "fnExactIsValidSightings", fn := fun _ => fun
  | [d] => { results := [.lit (.bool false)], args := [d] }
  | _ => none }
def FnExactIsValidSightingsWrongFalsely : Prop := fnExactIsValidSightingsRow.holds Try.pinned (OpenSpec.ofChange fnExactIsValidSightingsWrong)

/-- 'laws.FnExactGroupSightings': WHATEVER THE INPUT: true; the input reads as it did. -/
def fnExactGroupSightingsSpec : ChangeSpec := { name := "fnExactGroupSightings", fn := fun _ => fun
  | [d1, d2, d3] => { results := [.lit (.bool true)], args := [d1, d2, d3] }
  | _ => none }
def fnExactGroupSightingsRow : OpenClaim := { program := "ytcfkkmlmjekhiaa", sum := "3397a51c605a81d83b06370f487669e6d877bec6d57cba887358a8f15847035d", func := "loop.example/g00875/laws.FnExactGroupSightings", spec := "fnExactGroupSightings", unfollowed := true, recurses := true, apart := false }
def FnExactGroupSightingsSaid : Prop := fnExactGroupSightingsRow.holds Try.pinned (OpenSpec.ofChange fnExactGroupSightingsSpec)

/-- ITS FALSE NEIGHBOUR: 'it returns false'. Refute it at one input. -/
def fnExactGroupSightingsWrong : ChangeSpec := { name := "fnExactGroupSightings", fn := fun _ => fun
  | [d1, d2, d3] => { results := [.lit (.bool false)], args := [d1, d2, d3] }
  | _ => none }
def FnExactGroupSightingsWrongFalsely : Prop := fnExactGroupSightingsRow.holds Try.pinned (OpenSpec.ofChange fnExactGroupSightingsWrong)

/-- 'laws.FnExactPlotsOf': WHATEVER THE INPUT: true; the input reads as it did. -/
def fnExactPlotsOfSpec : ChangeSpec := { name := "fnExactPlotsOf", fn := fun _ => fun
  | [d1, d2, d3] => { results := [.lit (.bool true)], args := [d1, d2, d3] }
  | _ => none }
def fnExactPlotsOfRow : OpenClaim := { program := "ytcfkkmlmjekhiaa", sum := "3397a51c605a81d83b06370f487669e6d877bec6d57cba887358a8f15847035d", func := "loop.example/g00875/laws.FnExactPlotsOf", spec := "fnExactPlotsOf", unfollowed := true, recurses := true, apart := false }
def FnExactPlotsOfSaid : Prop := fnExactPlotsOfRow.holds Try.pinned (OpenSpec.ofChange fnExactPlotsOfSpec)

/-- ITS FALSE NEIGHBOUR: 'it returns false'. Refute it at one input. -/
def fnExactPlotsOfWrong : ChangeSpec := { name := "fnExactPlotsOf", fn := fun _ => fun
  | [d1, d2, d3] => { results := [.lit (.bool false)], args := [d1, d2, d3] }
  | _ => none }
def FnExactPlotsOfWrongFalsely : Prop := fnExactPlotsOfRow.holds Try.pinned (OpenSpec.ofChange fnExactPlotsOfWrong)

/-- 'laws.FnExactIsValidPlot': WHATEVER THE INPUT: true; the input reads as it did. -/
def fnExactIsValidPlotSpec : ChangeSpec := { name := "fnExactIsValidPlot", fn := fun _ => fun
  | [d] => { results := [.lit (.bool true)], args := [d] }
  | _ => none }
def fnExactIsValidPlotRow : OpenClaim := { program := "ytcfkkmlmjekhiaa", sum := "3397a51c605a81d83b06370f487669e6d877bec6d57cba887358a8f15847035d", func := "loop.example/g00875/laws.FnExactIsValidPlot", spec := "fnExactIsValidPlot", unfollowed := true, recurses := true, apart := false }
def FnExactIsValidPlotSaid : Prop := fnExactIsValidPlotRow.holds Try.pinned (OpenSpec.ofChange fnExactIsValidPlotSpec)

/-- ITS FALSE NEIGHBOUR: 'it returns false'. Refute it at one input. -/
def fnExactIsValidPlotWrong : ChangeSpec := { name := "fnExactIsValidPlot", fn := fun _ => fun
  | [d] => { results := [.lit (.bool false)], args := [d] }
  | _ => none }
def FnExactIsValidPlotWrongFalsely : Prop := fnExactIsValidPlotRow.holds Try.pinned (OpenSpec.ofChange fnExactIsValidPlotWrong)

/-- 'laws.FnExactSiteCounts': WHATEVER THE INPUT: true; the input reads as it did. -/
def fnExactSiteCountsSpec : ChangeSpec := { name := "fnExactSiteCounts", fn := fun _ => fun
  | [d] => { results := [.lit (.bool true)], args := [d] }
  | _ => none }
def fnExactSiteCountsRow : OpenClaim := { program := "ytcfkkmlmjekhiaa", sum := "3397a51c605a81d83b06370f487669e6d877bec6d57cba887358a8f15847035d", func := "loop.example/g00875/laws.FnExactSiteCounts", spec := "fnExactSiteCounts", unfollowed := true, recurses := true, apart := false }
def FnExactSiteCountsSaid : Prop := fnExactSiteCountsRow.holds Try.pinned (OpenSpec.ofChange fnExactSiteCountsSpec)

/-- ITS FALSE NEIGHBOUR: 'it returns false'. Refute it at one input. -/
def fnExactSiteCountsWrong : ChangeSpec := { name := "fnExactSiteCounts", fn := fun _ => fun
  | [d] => { results := [.lit (.bool false)], args := [d] }
  | _ => none }
def FnExactSiteCountsWrongFalsely : Prop := fnExactSiteCountsRow.holds Try.pinned (OpenSpec.ofChange fnExactSiteCountsWrong)

/-- 'laws.FnExactLonelySightings': WHATEVER THE INPUT: true; the input reads as it did. -/
def fnExactLonelySightingsSpec : ChangeSpec := { name := "fnExactLonelySightings", fn := fun _ => fun
  | [d1, d2, d3] => { results := [.lit (.bool true)], args := [d1, d2, d3] }
  | _ => none }
def fnExactLonelySightingsRow : OpenClaim := { program := "ytcfkkmlmjekhiaa", sum := "3397a51c605a81d83b06370f487669e6d877bec6d57cba887358a8f15847035d", func := "loop.example/g00875/laws.FnExactLonelySightings", spec := "fnExactLonelySightings", unfollowed := true, recurses := true, apart := false }
def FnExactLonelySightingsSaid : Prop := fnExactLonelySightingsRow.holds Try.pinned (OpenSpec.ofChange fnExactLonelySightingsSpec)

/-- ITS FALSE NEIGHBOUR: 'it returns false'. Refute it at one input. -/
def fnExactLonelySightingsWrong : ChangeSpec := { name := "fnExactLonelySightings", fn := fun _ => fun
  | [d1, d2, d3] => { results := [.lit (.bool false)], args := [d1, d2, d3] }
  | _ => none }
def FnExactLonelySightingsWrongFalsely : Prop := fnExactLonelySightingsRow.holds Try.pinned (OpenSpec.ofChange fnExactLonelySightingsWrong)

/-- 'laws.FnExactSpreadOf': WHATEVER THE INPUT: true; the input reads as it did. -/
def fnExactSpreadOfSpec : ChangeSpec := { name := "fnExactSpreadOf", fn := fun _ => fun
  | [d1, d2, d3, d4] => { results := [.lit (.bool true)], args := [d1, d2, d3, d4] }
  | _ => none }
def fnExactSpreadOfRow : OpenClaim := { program := "ytcfkkmlmjekhiaa", sum := "3397a51c605a81d83b06370f487669e6d877bec6d57cba887358a8f15847035d", func := "loop.example/g00875/laws.FnExactSpreadOf", spec := "fnExactSpreadOf", unfollowed := true, recurses := true, apart := false }
def FnExactSpreadOfSaid : Prop := fnExactSpreadOfRow.holds Try.pinned (OpenSpec.ofChange fnExactSpreadOfSpec)

/-- ITS FALSE NEIGHBOUR: 'it returns false'. Refute it at one input. -/
def fnExactSpreadOfWrong : ChangeSpec := { name := "fnExactSpreadOf", fn := fun _ => fun
  | [d1, d2, d3, d4] => { results := [.lit (.bool false)], args := [d1, d2, d3, d4] }
  | _ => none }
def FnExactSpreadOfWrongFalsely : Prop := fnExactSpreadOfRow.holds Try.pinned (OpenSpec.ofChange fnExactSpreadOfWrong)

/- THE SECOND FORM. 'bulk': how many values and letters a reading holds, each counted each time it is reached (what is shared counts as often as it is met; a slice's spare places count too). A statement '..UptoSaid' is the law's where the arguments, and the package variables that the reading takes, are together of bulk at most 1048576: NARROWER than '..Said'. Prove '..Said' where nothing that the law and all that it calls make is longer than what came in: it says more and counts as full. Else prove '..UptoSaid'. A law counts once. -/
mutual
def uptoBulk {H : Type} : DataW H → Nat
  | .lit (.string bytes) => bytes.length + 1
  | .lit _ => 1
  | .nil => 1
  | .ptr d => uptoBulk d + 1
  | .slice elems spare => uptoBulkAll elems + uptoBulkAll spare + 1
  | .agg parts => uptoBulkAll parts + 1
  | .iface _ d => uptoBulk d + 1
  | .map entries => uptoBulkEntries entries + 1
  | .held _ => 1
def uptoBulkAll {H : Type} : List (DataW H) → Nat
  | [] => 0
  | d :: r => uptoBulk d + uptoBulkAll r
def uptoBulkEntries {H : Type} : List (Lit × DataW H) → Nat
  | [] => 0
  | x :: r => uptoBulkEntry x + uptoBulkEntries r
def uptoBulkEntry {H : Type} : Lit × DataW H → Nat
  | (.string bytes, d) => bytes.length + uptoBulk d + 1
  | (_, d) => uptoBulk d + 1
 end
def uptoSmall : (H : Type) → List (DataW H) → Bool := fun _ ds => decide (uptoBulkAll ds ≤ 1048576)
def OpenSpec.upto (s : _root_.Go.ChangeSpec) : _root_.Go.OpenSpec := { _root_.Go.OpenSpec.ofChange s with cond := some uptoSmall }

/-- 'laws.FnGroups', WHERE WHAT IT READS IS OF BULK AT MOST 1048576: true; the input reads as it did. -/
def fnGroupsUptoRow : OpenClaim := { program := "ytcfkkmlmjekhiaa", sum := "3397a51c605a81d83b06370f487669e6d877bec6d57cba887358a8f15847035d", func := "loop.example/g00875/laws.FnGroups", spec := "fnGroups", unfollowed := true, recurses := true, apart := false, narrowed := true }
def FnGroupsUptoSaid : Prop := fnGroupsUptoRow.holds Try.pinned (OpenSpec.upto fnGroupsSpec)

/-- 'laws.FnExactIsValidSightings', WHERE WHAT IT READS IS OF BULK AT MOST 1048576: true; the input reads as it did. -/
def fnExactIsValidSightingsUptoRow : OpenClaim := { program := "ytcfkkmlmjekhiaa", sum := "3397a51c605a81d83b06370f487669e6d877bec6d57cba887358a8f15847035d", func := "loop.example/g00875/laws.FnExactIsValidSightings", spec := "fnExactIsValidSightings", unfollowed := true, recurses := true, apart := false, narrowed := true }
def FnExactIsValidSightingsUptoSaid : Prop := fnExactIsValidSightingsUptoRow.holds Try.pinned (OpenSpec.upto fnExactIsValidSightingsSpec)

/-- 'laws.FnExactGroupSightings', WHERE WHAT IT READS IS OF BULK AT MOST 1048576: true; the input reads as it did. -/
def fnExactGroupSightingsUptoRow : OpenClaim := { program := "ytcfkkmlmjekhiaa", sum := "3397a51c605a81d83b06370f487669e6d877bec6d57cba887358a8f15847035d", func := "loop.example/g00875/laws.FnExactGroupSightings", spec := "fnExactGroupSightings", unfollowed := true, recurses := true, apart := false, narrowed := true }
def FnExactGroupSightingsUptoSaid : Prop := fnExactGroupSightingsUptoRow.holds Try.pinned (OpenSpec.upto fnExactGroupSightingsSpec)

/-- 'laws.FnExactPlotsOf', WHERE WHAT IT READS IS OF BULK AT MOST 1048576: true; the input reads as it did. -/
def fnExactPlotsOfUptoRow : OpenClaim := { program := "ytcfkkmlmjekhiaa", sum := "3397a51c605a81d83b06370f487669e6d877bec6d57cba887358a8f15847035d", func := "loop.example/g00875/laws.FnExactPlotsOf", spec := "fnExactPlotsOf", unfollowed := true, recurses := true, apart := false, narrowed := true }
def FnExactPlotsOfUptoSaid : Prop := fnExactPlotsOfUptoRow.holds Try.pinned (OpenSpec.upto fnExactPlotsOfSpec)

/-- 'laws.FnExactIsValidPlot', WHERE WHAT IT READS IS OF BULK AT MOST 1048576: true; the input reads as it did. -/
def fnExactIsValidPlotUptoRow : OpenClaim := { program := "ytcfkkmlmjekhiaa", sum := "3397a51c605a81d83b06370f487669e6d877bec6d57cba887358a8f15847035d", func := "loop.example/g00875/laws.FnExactIsValidPlot", spec := "fnExactIsValidPlot", unfollowed := true, recurses := true, apart := false, narrowed := true }
def FnExactIsValidPlotUptoSaid : Prop := fnExactIsValidPlotUptoRow.holds Try.pinned (OpenSpec.upto fnExactIsValidPlotSpec)

/-- 'laws.FnExactSiteCounts', WHERE WHAT IT READS IS OF BULK AT MOST 1048576: true; the input reads as it did. -/
def fnExactSiteCountsUptoRow : OpenClaim := { program := "ytcfkkmlmjekhiaa", sum := "3397a51c605a81d83b06370f487669e6d877bec6d57cba887358a8f15847035d", func := "loop.example/g00875/laws.FnExactSiteCounts", spec := "fnExactSiteCounts", unfollowed := true, recurses := true, apart := false, narrowed := true }
def FnExactSiteCountsUptoSaid : Prop := fnExactSiteCountsUptoRow.holds Try.pinned (OpenSpec.upto fnExactSiteCountsSpec)

/-- 'laws.FnExactLonelySightings', WHERE WHAT IT READS IS OF BULK AT MOST 1048576: true; the input reads as it did. -/
def fnExactLonelySightingsUptoRow : OpenClaim := { program := "ytcfkkmlmjekhiaa", sum := "3397a51c605a81d83b06370f487669e6d877bec6d57cba887358a8f15847035d", func := "loop.example/g00875/laws.FnExactLonelySightings", spec := "fnExactLonelySightings", unfollowed := true, recurses := true, apart := false, narrowed := true }
def FnExactLonelySightingsUptoSaid : Prop := fnExactLonelySightingsUptoRow.holds Try.pinned (OpenSpec.upto fnExactLonelySightingsSpec)

/-- 'laws.FnExactSpreadOf', WHERE WHAT IT READS IS OF BULK AT MOST 1048576: true; the input reads as it did. -/
def fnExactSpreadOfUptoRow : OpenClaim := { program := "ytcfkkmlmjekhiaa", sum := "3397a51c605a81d83b06370f487669e6d877bec6d57cba887358a8f15847035d", func := "loop.example/g00875/laws.FnExactSpreadOf", spec := "fnExactSpreadOf", unfollowed := true, recurses := true, apart := false, narrowed := true }
def FnExactSpreadOfUptoSaid : Prop := fnExactSpreadOfUptoRow.holds Try.pinned (OpenSpec.upto fnExactSpreadOfSpec)

end Rows
end Go.Proofs.Ytcfkkmlmjekhiaa
