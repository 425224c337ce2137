/-
  DERIVED. GIVEN WITH THE SEED: THE CARDS: each row of YtjfhkbpkiblkmaaDoorRows.lean that lists a variable, with what it lists TIED to the program's text (the seventh form; the later family's looks); each row that meets fmt, with fmt's text TOLD by the authors' own Lean function (tested against real Go, not proved from fmt's source: count such statements apart). THE CARD IS WHAT COUNTS. Prove the row's statement (the work); the ties are given (YtjfhkbpkiblkmaaDoorTie.lean); close each card by the builder's one call (the guide's Derived/Test/ToyasCard.lean, 'card_holds'). Laid BY PROGRAM, IN A SANDBOX (cutbox-door.mjs). By AI agents, Wed Nov 11 2026. No macro, syntax, notation, axiom, sorry.
-/
import Derived.Test.YtjfhkbpkiblkmaaDoorRows
import GoSem.ClaimSeven
namespace Go.Proofs.YtjfhkbpkiblkmaaDoor
namespace Rows

/-- THE TIED CARD OF 'laws.FnFlightNames'. -/
def fnFlightNamesCard : Claim7 := { stood := { row := fnFlightNamesRow, standIns := [], harness := (true, "e02ad1e13b8890a4566c98f4ae60beac2c7d4b0e30cd111204a61bdc148cae6f"), looks := false }, kinds := [], alts := [], laidByText := true, laidKinds := [.data, .pinned], laidTests := true, laidLooks := .later }
def FnFlightNamesCardSaid : Prop := Claim7.holds Tryd.pinned (.plain (OpenSpec.ofChange fnFlightNamesSpec)) fnFlightNamesCard

/-- THE TIED CARD OF 'laws.FnNearestNames'. -/
def fnNearestNamesCard : Claim7 := { stood := { row := fnNearestNamesRow, standIns := [], harness := (true, "e02ad1e13b8890a4566c98f4ae60beac2c7d4b0e30cd111204a61bdc148cae6f"), looks := false }, kinds := [], alts := [], laidByText := true, laidKinds := [.data, .data, .data], laidTests := true, laidLooks := .later }
def FnNearestNamesCardSaid : Prop := Claim7.holds Tryd.pinned (.plain (OpenSpec.ofChange fnNearestNamesSpec)) fnNearestNamesCard

/-- THE TIED CARD OF 'laws.FnExactParseNameBits'. -/
def fnExactParseNameBitsCard : Claim7 := { stood := { row := fnExactParseNameBitsRow, standIns := [], harness := (true, "e02ad1e13b8890a4566c98f4ae60beac2c7d4b0e30cd111204a61bdc148cae6f"), looks := false }, kinds := [], alts := [], laidByText := true, laidKinds := [.data, .pinned], laidTests := true, laidLooks := .later }
def FnExactParseNameBitsCardSaid : Prop := Claim7.holds Tryd.pinned (.plain (OpenSpec.ofChange fnExactParseNameBitsSpec)) fnExactParseNameBitsCard

/-- THE TIED CARD OF 'laws.FnExactJoinNameParts'. -/
def fnExactJoinNamePartsCard : Claim7 := { stood := { row := fnExactJoinNamePartsRow, standIns := [], harness := (true, "e02ad1e13b8890a4566c98f4ae60beac2c7d4b0e30cd111204a61bdc148cae6f"), looks := false }, kinds := [], alts := [], laidByText := true, laidKinds := [.data, .pinned], laidTests := true, laidLooks := .later }
def FnExactJoinNamePartsCardSaid : Prop := Claim7.holds Tryd.pinned (.plain (OpenSpec.ofChange fnExactJoinNamePartsSpec)) fnExactJoinNamePartsCard

/-- THE TIED CARD OF 'laws.FnExactSplitFlightName'. -/
def fnExactSplitFlightNameCard : Claim7 := { stood := { row := fnExactSplitFlightNameRow, standIns := [], harness := (true, "e02ad1e13b8890a4566c98f4ae60beac2c7d4b0e30cd111204a61bdc148cae6f"), looks := false }, kinds := [], alts := [], laidByText := true, laidKinds := [.data, .data, .data], laidTests := true, laidLooks := .later }
def FnExactSplitFlightNameCardSaid : Prop := Claim7.holds Tryd.pinned (.plain (OpenSpec.ofChange fnExactSplitFlightNameSpec)) fnExactSplitFlightNameCard

/-- THE SECOND FORM's CARD OF 'laws.FnFlightNames'. -/
def fnFlightNamesUptoCard : Claim7 := { stood := { row := fnFlightNamesUptoRow, standIns := [], harness := (true, "e02ad1e13b8890a4566c98f4ae60beac2c7d4b0e30cd111204a61bdc148cae6f"), looks := false }, kinds := [], alts := [], laidByText := true, laidKinds := [.data, .pinned], laidTests := true, laidLooks := .later }
def FnFlightNamesUptoCardSaid : Prop := Claim7.holds Tryd.pinned (.plain (OpenSpec.upto fnFlightNamesSpec)) fnFlightNamesUptoCard

/-- THE SECOND FORM's CARD OF 'laws.FnNearestNames'. -/
def fnNearestNamesUptoCard : Claim7 := { stood := { row := fnNearestNamesUptoRow, standIns := [], harness := (true, "e02ad1e13b8890a4566c98f4ae60beac2c7d4b0e30cd111204a61bdc148cae6f"), looks := false }, kinds := [], alts := [], laidByText := true, laidKinds := [.data, .data, .data], laidTests := true, laidLooks := .later }
def FnNearestNamesUptoCardSaid : Prop := Claim7.holds Tryd.pinned (.plain (OpenSpec.upto fnNearestNamesSpec)) fnNearestNamesUptoCard

/-- THE SECOND FORM's CARD OF 'laws.FnExactParseNameBits'. -/
def fnExactParseNameBitsUptoCard : Claim7 := { stood := { row := fnExactParseNameBitsUptoRow, standIns := [], harness := (true, "e02ad1e13b8890a4566c98f4ae60beac2c7d4b0e30cd111204a61bdc148cae6f"), looks := false }, kinds := [], alts := [], laidByText := true, laidKinds := [.data, .pinned], laidTests := true, laidLooks := .later }
def FnExactParseNameBitsUptoCardSaid : Prop := Claim7.holds Tryd.pinned (.plain (OpenSpec.upto fnExactParseNameBitsSpec)) fnExactParseNameBitsUptoCard

/-- THE SECOND FORM's CARD OF 'laws.FnExactJoinNameParts'. -/
def fnExactJoinNamePartsUptoCard : Claim7 := { stood := { row := fnExactJoinNamePartsUptoRow, standIns := [], harness := (true, "e02ad1e13b8890a4566c98f4ae60beac2c7d4b0e30cd111204a61bdc148cae6f"), looks := false }, kinds := [], alts := [], laidByText := true, laidKinds := [.data, .pinned], laidTests := true, laidLooks := .later }
def FnExactJoinNamePartsUptoCardSaid : Prop := Claim7.holds Tryd.pinned (.plain (OpenSpec.upto fnExactJoinNamePartsSpec)) fnExactJoinNamePartsUptoCard

/-- THE SECOND FORM's CARD OF 'laws.FnExactSplitFlightName'. -/
def fnExactSplitFlightNameUptoCard : Claim7 := { stood := { row := fnExactSplitFlightNameUptoRow, standIns := [], harness := (true, "e02ad1e13b8890a4566c98f4ae60beac2c7d4b0e30cd111204a61bdc148cae6f"), looks := false }, kinds := [], alts := [], laidByText := true, laidKinds := [.data, .data, .data], laidTests := true, laidLooks := .later }
def FnExactSplitFlightNameUptoCardSaid : Prop := Claim7.holds Tryd.pinned (.plain (OpenSpec.upto fnExactSplitFlightNameSpec)) fnExactSplitFlightNameUptoCard
end Rows
end Go.Proofs.YtjfhkbpkiblkmaaDoor
