/-
  No cell of these rows narrows 'for every input' (looked for: loops, veiled, ifaces, maps, wideKeys, modest, calm, conditions, laid).
  DERIVED. THE GIVEN ROWS OF THIS SEAT. 11 by the template 'for every input the law returns true; each argument reads behind the call as it read before'; 0 by the template 'total and deterministic' (their statements: YtadpihfegccpkaaTotals.lean).
  GIVEN WITH THE SEED: the statements are not yours to turn. If you find one false, say at which input.
  Laid BY PROGRAM, IN A SANDBOX (cutbox-rows.mjs): the forced cells as the released guide's own fill.sh prints them over the translation 7d043249d7969c8e… (all of the seat's roots in one cut). By AI agents, Wed Nov 11 2026. No macro, syntax, notation, axiom, sorry.
-/
import Derived.Test.YtadpihfegccpkaaChecked
import GoSem.Claim
import GoSem.ClaimJoined
import GoSem.ClaimMapViews
import Derived.JoinedTies
import Derived.KernelRfl
namespace Go.Proofs.Ytadpihfegccpkaa
/- THE CELL 'sum', in the pinned program and in every row, IS THE sha256 OF THE DUMP (.gsa) THAT YtadpihfegccpkaaProg.lean LOADS. Nothing in Lean hashes anything: it is a label: what it is worth is what the hold of that sum in a sandbox is worth. -/
noncomputable def Try.pinned : Pinned := { name := "ytadpihfegccpkaa", sum := "7d043249d7969c8edbf4cbc2efb484cc6fdf8954e6fedec09ab97be140152af5", checked := Try.checked }
namespace Rows
def none {H : Type} : Left H := { results := [], args := [] }

/-- 'laws.FnSectors': WHATEVER THE INPUT: true; the input reads as it did. -/
def fnSectorsSpec : ChangeSpec := { name := "fnSectors", fn := fun _ => fun
  | [d] => { results := [.lit (.bool true)], args := [d] }
  | _ => none }
def fnSectorsRow : OpenClaim := { program := "ytadpihfegccpkaa", sum := "7d043249d7969c8edbf4cbc2efb484cc6fdf8954e6fedec09ab97be140152af5", func := "loop.example/g00875/laws.FnSectors", spec := "fnSectors", unfollowed := true, recurses := true, apart := false }
def FnSectorsSaid : Prop := fnSectorsRow.holds Try.pinned (OpenSpec.ofChange fnSectorsSpec)

/-- ITS FALSE NEIGHBOUR: 'it returns false'. Refute it at one input. -/
def fnSectorsWrong : ChangeSpec := { name := "fnSectors", fn := fun _ => fun
  | [d] => { results := [.lit (.bool false)], args := [d] }
  | _ => none }
def FnSectorsWrongFalsely : Prop := fnSectorsRow.holds Try.pinned (OpenSpec.ofChange fnSectorsWrong)

/-- 'laws.FnCrossings': WHATEVER THE INPUT: true; the input reads as it did. -/
def fnCrossingsSpec : ChangeSpec := { name := "fnCrossings", fn := fun _ => fun
  | [d] => { results := [.lit (.bool true)], args := [d] }
  | _ => none }
def fnCrossingsRow : OpenClaim := { program := "ytadpihfegccpkaa", sum := "7d043249d7969c8edbf4cbc2efb484cc6fdf8954e6fedec09ab97be140152af5", func := "loop.example/g00875/laws.FnCrossings", spec := "fnCrossings", unfollowed := true, recurses := true, apart := false }
def FnCrossingsSaid : Prop := fnCrossingsRow.holds Try.pinned (OpenSpec.ofChange fnCrossingsSpec)

/-- ITS FALSE NEIGHBOUR: 'it returns false'. Refute it at one input. -/
def fnCrossingsWrong : ChangeSpec := { name := "fnCrossings", fn := fun _ => fun
  | [d] => { results := [.lit (.bool false)], args := [d] }
  | _ => none }
def FnCrossingsWrongFalsely : Prop := fnCrossingsRow.holds Try.pinned (OpenSpec.ofChange fnCrossingsWrong)

/-- 'laws.FnExactIsValidSector': WHATEVER THE INPUT: true; the input reads as it did. -/
def fnExactIsValidSectorSpec : ChangeSpec := { name := "fnExactIsValidSector", fn := fun _ => fun
  | [d] => { results := [.lit (.bool true)], args := [d] }
  | _ => none }
def fnExactIsValidSectorRow : OpenClaim := { program := "ytadpihfegccpkaa", sum := "7d043249d7969c8edbf4cbc2efb484cc6fdf8954e6fedec09ab97be140152af5", func := "loop.example/g00875/laws.FnExactIsValidSector", spec := "fnExactIsValidSector", unfollowed := true, recurses := true, apart := false }
def FnExactIsValidSectorSaid : Prop := fnExactIsValidSectorRow.holds Try.pinned (OpenSpec.ofChange fnExactIsValidSectorSpec)

/-- ITS FALSE NEIGHBOUR: 'it returns false'. Refute it at one input. -/
def fnExactIsValidSectorWrong : ChangeSpec := { name := "fnExactIsValidSector", fn := fun _ => fun
  | [d] => { results := [.lit (.bool false)], args := [d] }
  | _ => none }
def FnExactIsValidSectorWrongFalsely : Prop := fnExactIsValidSectorRow.holds Try.pinned (OpenSpec.ofChange fnExactIsValidSectorWrong)

/-- 'laws.FnExactDoubleArea': WHATEVER THE INPUT: true; the input reads as it did. -/
def fnExactDoubleAreaSpec : ChangeSpec := { name := "fnExactDoubleArea", fn := fun _ => fun
  | [d] => { results := [.lit (.bool true)], args := [d] }
  | _ => none }
def fnExactDoubleAreaRow : OpenClaim := { program := "ytadpihfegccpkaa", sum := "7d043249d7969c8edbf4cbc2efb484cc6fdf8954e6fedec09ab97be140152af5", func := "loop.example/g00875/laws.FnExactDoubleArea", spec := "fnExactDoubleArea", unfollowed := true, recurses := true, apart := false }
def FnExactDoubleAreaSaid : Prop := fnExactDoubleAreaRow.holds Try.pinned (OpenSpec.ofChange fnExactDoubleAreaSpec)

/-- ITS FALSE NEIGHBOUR: 'it returns false'. Refute it at one input. -/
def fnExactDoubleAreaWrong : ChangeSpec := { name := "fnExactDoubleArea", fn := fun _ => fun
  | [d] => { results := [.lit (.bool false)], args := [d] }
  | _ => none }
def FnExactDoubleAreaWrongFalsely : Prop := fnExactDoubleAreaRow.holds Try.pinned (OpenSpec.ofChange fnExactDoubleAreaWrong)

/-- 'laws.FnExactIsIn': WHATEVER THE INPUT: true; the input reads as it did. -/
def fnExactIsInSpec : ChangeSpec := { name := "fnExactIsIn", fn := fun _ => fun
  | [d1, d2] => { results := [.lit (.bool true)], args := [d1, d2] }
  | _ => none }
def fnExactIsInRow : OpenClaim := { program := "ytadpihfegccpkaa", sum := "7d043249d7969c8edbf4cbc2efb484cc6fdf8954e6fedec09ab97be140152af5", func := "loop.example/g00875/laws.FnExactIsIn", spec := "fnExactIsIn", unfollowed := true, recurses := true, apart := false }
def FnExactIsInSaid : Prop := fnExactIsInRow.holds Try.pinned (OpenSpec.ofChange fnExactIsInSpec)

/-- ITS FALSE NEIGHBOUR: 'it returns false'. Refute it at one input. -/
def fnExactIsInWrong : ChangeSpec := { name := "fnExactIsIn", fn := fun _ => fun
  | [d1, d2] => { results := [.lit (.bool false)], args := [d1, d2] }
  | _ => none }
def FnExactIsInWrongFalsely : Prop := fnExactIsInRow.holds Try.pinned (OpenSpec.ofChange fnExactIsInWrong)

/-- 'laws.FnExactIsOnBorder': WHATEVER THE INPUT: true; the input reads as it did. -/
def fnExactIsOnBorderSpec : ChangeSpec := { name := "fnExactIsOnBorder", fn := fun _ => fun
  | [d1, d2] => { results := [.lit (.bool true)], args := [d1, d2] }
  | _ => none }
def fnExactIsOnBorderRow : OpenClaim := { program := "ytadpihfegccpkaa", sum := "7d043249d7969c8edbf4cbc2efb484cc6fdf8954e6fedec09ab97be140152af5", func := "loop.example/g00875/laws.FnExactIsOnBorder", spec := "fnExactIsOnBorder", unfollowed := true, recurses := true, apart := false }
def FnExactIsOnBorderSaid : Prop := fnExactIsOnBorderRow.holds Try.pinned (OpenSpec.ofChange fnExactIsOnBorderSpec)

/-- ITS FALSE NEIGHBOUR: 'it returns false'. Refute it at one input. -/
def fnExactIsOnBorderWrong : ChangeSpec := { name := "fnExactIsOnBorder", fn := fun _ => fun
  | [d1, d2] => { results := [.lit (.bool false)], args := [d1, d2] }
  | _ => none }
def FnExactIsOnBorderWrongFalsely : Prop := fnExactIsOnBorderRow.holds Try.pinned (OpenSpec.ofChange fnExactIsOnBorderWrong)

/-- 'laws.FnExactSectorsAt': WHATEVER THE INPUT: true; the input reads as it did. -/
def fnExactSectorsAtSpec : ChangeSpec := { name := "fnExactSectorsAt", fn := fun _ => fun
  | [d1, d2] => { results := [.lit (.bool true)], args := [d1, d2] }
  | _ => none }
def fnExactSectorsAtRow : OpenClaim := { program := "ytadpihfegccpkaa", sum := "7d043249d7969c8edbf4cbc2efb484cc6fdf8954e6fedec09ab97be140152af5", func := "loop.example/g00875/laws.FnExactSectorsAt", spec := "fnExactSectorsAt", unfollowed := true, recurses := true, apart := false }
def FnExactSectorsAtSaid : Prop := fnExactSectorsAtRow.holds Try.pinned (OpenSpec.ofChange fnExactSectorsAtSpec)

/-- ITS FALSE NEIGHBOUR: 'it returns false'. Refute it at one input. -/
def fnExactSectorsAtWrong : ChangeSpec := { name := "fnExactSectorsAt", fn := fun _ => fun
  | [d1, d2] => { results := [.lit (.bool false)], args := [d1, d2] }
  | _ => none }
def FnExactSectorsAtWrongFalsely : Prop := fnExactSectorsAtRow.holds Try.pinned (OpenSpec.ofChange fnExactSectorsAtWrong)

/-- 'laws.FnExactSectorBox': WHATEVER THE INPUT: true; the input reads as it did. -/
def fnExactSectorBoxSpec : ChangeSpec := { name := "fnExactSectorBox", fn := fun _ => fun
  | [d] => { results := [.lit (.bool true)], args := [d] }
  | _ => none }
def fnExactSectorBoxRow : OpenClaim := { program := "ytadpihfegccpkaa", sum := "7d043249d7969c8edbf4cbc2efb484cc6fdf8954e6fedec09ab97be140152af5", func := "loop.example/g00875/laws.FnExactSectorBox", spec := "fnExactSectorBox", unfollowed := true, recurses := true, apart := false }
def FnExactSectorBoxSaid : Prop := fnExactSectorBoxRow.holds Try.pinned (OpenSpec.ofChange fnExactSectorBoxSpec)

/-- ITS FALSE NEIGHBOUR: 'it returns false'. Refute it at one input. -/
def fnExactSectorBoxWrong : ChangeSpec := { name := "fnExactSectorBox", fn := fun _ => fun
  | [d] => { results := [.lit (.bool false)], args := [d] }
  | _ => none }
def FnExactSectorBoxWrongFalsely : Prop := fnExactSectorBoxRow.holds Try.pinned (OpenSpec.ofChange fnExactSectorBoxWrong)

/-- 'laws.FnExactTurnedSector': WHATEVER THE INPUT: true; the input reads as it did. -/
def fnExactTurnedSectorSpec : ChangeSpec := { name := "fnExactTurnedSector", fn := fun _ => fun
  | [d] => { results := [.lit (.bool true)], args := [d] }
  | _ => none }
def fnExactTurnedSectorRow : OpenClaim := { program := "ytadpihfegccpkaa", sum := "7d043249d7969c8edbf4cbc2efb484cc6fdf8954e6fedec09ab97be140152af5", func := "loop.example/g00875/laws.FnExactTurnedSector", spec := "fnExactTurnedSector", unfollowed := true, recurses := true, apart := false }
def FnExactTurnedSectorSaid : Prop := fnExactTurnedSectorRow.holds Try.pinned (OpenSpec.ofChange fnExactTurnedSectorSpec)

/-- ITS FALSE NEIGHBOUR: 'it returns false'. Refute it at one input. -/
def fnExactTurnedSectorWrong : ChangeSpec := { name := "fnExactTurnedSector", fn := fun _ => fun
  | [d] => { results := [.lit (.bool false)], args := [d] }
  | _ => none }
def FnExactTurnedSectorWrongFalsely : Prop := fnExactTurnedSectorRow.holds Try.pinned (OpenSpec.ofChange fnExactTurnedSectorWrong)

/-- 'laws.FnExactSameSector': WHATEVER THE INPUT: true; the input reads as it did. -/
def fnExactSameSectorSpec : ChangeSpec := { name := "fnExactSameSector", fn := fun _ => fun
  | [d1, d2] => { results := [.lit (.bool true)], args := [d1, d2] }
  | _ => none }
def fnExactSameSectorRow : OpenClaim := { program := "ytadpihfegccpkaa", sum := "7d043249d7969c8edbf4cbc2efb484cc6fdf8954e6fedec09ab97be140152af5", func := "loop.example/g00875/laws.FnExactSameSector", spec := "fnExactSameSector", unfollowed := true, recurses := true, apart := false }
def FnExactSameSectorSaid : Prop := fnExactSameSectorRow.holds Try.pinned (OpenSpec.ofChange fnExactSameSectorSpec)

/-- ITS FALSE NEIGHBOUR: 'it returns false'. Refute it at one input. -/
def fnExactSameSectorWrong : ChangeSpec := { name := "fnExactSameSector", fn := fun _ => fun
  | [d1, d2] => { results := [.lit (.bool false)], args := [d1, d2] }
  | _ => none }
def FnExactSameSectorWrongFalsely : Prop := fnExactSameSectorRow.holds Try.pinned (OpenSpec.ofChange fnExactSameSectorWrong)

/-- 'laws.FnExactCrossedSides': WHATEVER THE INPUT: true; the input reads as it did. -/
def fnExactCrossedSidesSpec : ChangeSpec := { name := "fnExactCrossedSides", fn := fun _ => fun
  | [d1, d2, d3] => { results := [.lit (.bool true)], args := [d1, d2, d3] }
  | _ => none }
def fnExactCrossedSidesRow : OpenClaim := { program := "ytadpihfegccpkaa", sum := "7d043249d7969c8edbf4cbc2efb484cc6fdf8954e6fedec09ab97be140152af5", func := "loop.example/g00875/laws.FnExactCrossedSides", spec := "fnExactCrossedSides", unfollowed := true, recurses := true, apart := false }
def FnExactCrossedSidesSaid : Prop := fnExactCrossedSidesRow.holds Try.pinned (OpenSpec.ofChange fnExactCrossedSidesSpec)

/-- ITS FALSE NEIGHBOUR: 'it returns false'. Refute it at one input. -/
def fnExactCrossedSidesWrong : ChangeSpec := { name := "fnExactCrossedSides", fn := fun _ => fun
  | [d1, d2, d3] => { results := [.lit (.bool false)], args := [d1, d2, d3] }
  | _ => none }
def FnExactCrossedSidesWrongFalsely : Prop := fnExactCrossedSidesRow.holds Try.pinned (OpenSpec.ofChange fnExactCrossedSidesWrong)

/- THE SECOND FORM. 'bulk': how many values and letters a reading holds, each counted each time it is reached (what is shared counts as often as it is met; a slice's spare places count too). A statement '..UptoSaid' is the law's where the arguments, and the package variables that the reading takes, are together of bulk at most 1048576: NARROWER than '..Said'. Prove '..Said' where nothing that the law and all that it calls make is longer than what came in: it says more and counts as full. Else prove '..UptoSaid'. A law counts once. -/
mutual
def uptoBulk {H : Type} : DataW H → Nat
  | .lit (.string bytes) => bytes.length + 1
  | .lit _ => 1
  | .nil => 1
  | .ptr d => uptoBulk d + 1
  | .slice elems spare => uptoBulkAll elems + uptoBulkAll spare + 1
  | .agg parts => uptoBulkAll parts + 1
  | .iface _ d => uptoBulk d + 1
  | .map entries => uptoBulkEntries entries + 1
  | .held _ => 1
def uptoBulkAll {H : Type} : List (DataW H) → Nat
  | [] => 0
  | d :: r => uptoBulk d + uptoBulkAll r
def uptoBulkEntries {H : Type} : List (Lit × DataW H) → Nat
  | [] => 0
  | x :: r => uptoBulkEntry x + uptoBulkEntries r
def uptoBulkEntry {H : Type} : Lit × DataW H → Nat
  | (.string bytes, d) => bytes.length + uptoBulk d + 1
  | (_, d) => uptoBulk d + 1
 end
def uptoSmall : (H : Type) → List (DataW H) → Bool := fun _ ds => decide (uptoBulkAll ds ≤ 1048576)
def OpenSpec.upto (s : _root_.Go.ChangeSpec) : _root_.Go.OpenSpec := { _root_.Go.OpenSpec.ofChange s with cond := some uptoSmall }

/-- 'laws.FnSectors', WHERE WHAT IT READS IS OF BULK AT MOST 1048576: true; the input reads as it did. -/
def fnSectorsUptoRow : OpenClaim := { program := "ytadpihfegccpkaa", sum := "7d043249d7969c8edbf4cbc2efb484cc6fdf8954e6fedec09ab97be140152af5", func := "loop.example/g00875/laws.FnSectors", spec := "fnSectors", unfollowed := true, recurses := true, apart := false, narrowed := true }
def FnSectorsUptoSaid : Prop := fnSectorsUptoRow.holds Try.pinned (OpenSpec.upto fnSectorsSpec)

/-- 'laws.FnCrossings', WHERE WHAT IT READS IS OF BULK AT MOST 1048576: true; the input reads as it did. -/
def fnCrossingsUptoRow : OpenClaim := { program := "ytadpihfegccpkaa", sum := "7d043249d7969c8edbf4cbc2efb484cc6fdf8954e6fedec09ab97be140152af5", func := "loop.example/g00875/laws.FnCrossings", spec := "fnCrossings", unfollowed := true, recurses := true, apart := false, narrowed := true }
def FnCrossingsUptoSaid : Prop := fnCrossingsUptoRow.holds Try.pinned (OpenSpec.upto fnCrossingsSpec)

/-- 'laws.FnExactIsValidSector', WHERE WHAT IT READS IS OF BULK AT MOST 1048576: true; the input reads as it did. -/
def fnExactIsValidSectorUptoRow : OpenClaim := { program := "ytadpihfegccpkaa", sum := "7d043249d7969c8edbf4cbc2efb484cc6fdf8954e6fedec09ab97be140152af5", func := "loop.example/g00875/laws.FnExactIsValidSector", spec := "fnExactIsValidSector", unfollowed := true, recurses := true, apart := false, narrowed := true }
def FnExactIsValidSectorUptoSaid : Prop := fnExactIsValidSectorUptoRow.holds Try.pinned (OpenSpec.upto fnExactIsValidSectorSpec)

/-- 'laws.FnExactDoubleArea', WHERE WHAT IT READS IS OF BULK AT MOST 1048576: true; the input reads as it did. -/
def fnExactDoubleAreaUptoRow : OpenClaim := { program := "ytadpihfegccpkaa", sum := "7d043249d7969c8edbf4cbc2efb484cc6fdf8954e6fedec09ab97be140152af5", func := "loop.example/g00875/laws.FnExactDoubleArea", spec := "fnExactDoubleArea", unfollowed := true, recurses := true, apart := false, narrowed := true }
def FnExactDoubleAreaUptoSaid : Prop := fnExactDoubleAreaUptoRow.holds Try.pinned (OpenSpec.upto fnExactDoubleAreaSpec)

/-- 'laws.FnExactIsIn', WHERE WHAT IT READS IS OF BULK AT MOST 1048576: true; the input reads as it did. -/
def fnExactIsInUptoRow : OpenClaim := { program := "ytadpihfegccpkaa", sum := "7d043249d7969c8edbf4cbc2efb484cc6fdf8954e6fedec09ab97be140152af5", func := "loop.example/g00875/laws.FnExactIsIn", spec := "fnExactIsIn", unfollowed := true, recurses := true, apart := false, narrowed := true }
def FnExactIsInUptoSaid : Prop := fnExactIsInUptoRow.holds Try.pinned (OpenSpec.upto fnExactIsInSpec)

/-- 'laws.FnExactIsOnBorder', WHERE WHAT IT READS IS OF BULK AT MOST 1048576: true; the input reads as it did. -/
def fnExactIsOnBorderUptoRow : OpenClaim := { program := "ytadpihfegccpkaa", sum := "7d043249d7969c8edbf4cbc2efb484cc6fdf8954e6fedec09ab97be140152af5", func := "loop.example/g00875/laws.FnExactIsOnBorder", spec := "fnExactIsOnBorder", unfollowed := true, recurses := true, apart := false, narrowed := true }
def FnExactIsOnBorderUptoSaid : Prop := fnExactIsOnBorderUptoRow.holds Try.pinned (OpenSpec.upto fnExactIsOnBorderSpec)

/-- 'laws.FnExactSectorsAt', WHERE WHAT IT READS IS OF BULK AT MOST 1048576: true; the input reads as it did. -/
def fnExactSectorsAtUptoRow : OpenClaim := { program := "ytadpihfegccpkaa", sum := "7d043249d7969c8edbf4cbc2efb484cc6fdf8954e6fedec09ab97be140152af5", func := "loop.example/g00875/laws.FnExactSectorsAt", spec := "fnExactSectorsAt", unfollowed := true, recurses := true, apart := false, narrowed := true }
def FnExactSectorsAtUptoSaid : Prop := fnExactSectorsAtUptoRow.holds Try.pinned (OpenSpec.upto fnExactSectorsAtSpec)

/-- 'laws.FnExactSectorBox', WHERE WHAT IT READS IS OF BULK AT MOST 1048576: true; the input reads as it did. -/
def fnExactSectorBoxUptoRow : OpenClaim := { program := "ytadpihfegccpkaa", sum := "7d043249d7969c8edbf4cbc2efb484cc6fdf8954e6fedec09ab97be140152af5", func := "loop.example/g00875/laws.FnExactSectorBox", spec := "fnExactSectorBox", unfollowed := true, recurses := true, apart := false, narrowed := true }
def FnExactSectorBoxUptoSaid : Prop := fnExactSectorBoxUptoRow.holds Try.pinned (OpenSpec.upto fnExactSectorBoxSpec)

/-- 'laws.FnExactTurnedSector', WHERE WHAT IT READS IS OF BULK AT MOST 1048576: true; the input reads as it did. -/
def fnExactTurnedSectorUptoRow : OpenClaim := { program := "ytadpihfegccpkaa", sum := "7d043249d7969c8edbf4cbc2efb484cc6fdf8954e6fedec09ab97be140152af5", func := "loop.example/g00875/laws.FnExactTurnedSector", spec := "fnExactTurnedSector", unfollowed := true, recurses := true, apart := false, narrowed := true }
def FnExactTurnedSectorUptoSaid : Prop := fnExactTurnedSectorUptoRow.holds Try.pinned (OpenSpec.upto fnExactTurnedSectorSpec)

/-- 'laws.FnExactSameSector', WHERE WHAT IT READS IS OF BULK AT MOST 1048576: true; the input reads as it did. -/
def fnExactSameSectorUptoRow : OpenClaim := { program := "ytadpihfegccpkaa", sum := "7d043249d7969c8edbf4cbc2efb484cc6fdf8954e6fedec09ab97be140152af5", func := "loop.example/g00875/laws.FnExactSameSector", spec := "fnExactSameSector", unfollowed := true, recurses := true, apart := false, narrowed := true }
def FnExactSameSectorUptoSaid : Prop := fnExactSameSectorUptoRow.holds Try.pinned (OpenSpec.upto fnExactSameSectorSpec)

/-- 'laws.FnExactCrossedSides', WHERE WHAT IT READS IS OF BULK AT MOST 1048576: true; the input reads as it did. -/
def fnExactCrossedSidesUptoRow : OpenClaim := { program := "ytadpihfegccpkaa", sum := "7d043249d7969c8edbf4cbc2efb484cc6fdf8954e6fedec09ab97be140152af5", func := "loop.example/g00875/laws.FnExactCrossedSides", spec := "fnExactCrossedSides", unfollowed := true, recurses := true, apart := false, narrowed := true }
def FnExactCrossedSidesUptoSaid : Prop := fnExactCrossedSidesUptoRow.holds Try.pinned (OpenSpec.upto fnExactCrossedSidesSpec)

end Rows
end Go.Proofs.Ytadpihfegccpkaa
