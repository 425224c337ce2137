/-
  DERIVED. GIVEN WITH THE SEED: THE CARDS: each row of YtbjlhnhmdhjleaaDoorRows.lean that lists a variable, with what it lists TIED to the program's text (the seventh form; the later family's looks); each row that meets fmt, with fmt's text TOLD by the authors' own Lean function (tested against real Go, not proved from fmt's source: count such statements apart). THE CARD IS WHAT COUNTS. Prove the row's statement (the work); the ties are given (YtbjlhnhmdhjleaaDoorTie.lean); close each card by the builder's one call (the guide's Derived/Test/ToyasCard.lean, 'card_holds'). Laid BY PROGRAM, IN A SANDBOX (cutbox-door.mjs). By AI agents, Wed Nov 11 2026. No macro, syntax, notation, axiom, sorry.
-/
import Derived.Test.YtbjlhnhmdhjleaaDoorRows
import GoSem.ClaimSeven
namespace Go.Proofs.YtbjlhnhmdhjleaaDoor
namespace Rows

/-- THE TIED CARD OF 'laws.FnHeights'. -/
def fnHeightsCard : Claim7 := { stood := { row := fnHeightsRow, standIns := [], harness := (true, "d12cd82fdd0f238485e495b72856dc06cc18a8dd38c115c6d6d9a76449ebf48f"), looks := false }, kinds := [], alts := [], laidByText := true, laidKinds := [.data, .data, .data], laidTests := true, laidLooks := .later }
def FnHeightsCardSaid : Prop := Claim7.holds Tryd.pinned (.plain (OpenSpec.ofChange fnHeightsSpec)) fnHeightsCard

/-- THE TIED CARD OF 'laws.FnExactHeightText'. -/
def fnExactHeightTextCard : Claim7 := { stood := { row := fnExactHeightTextRow, standIns := [], harness := (true, "d12cd82fdd0f238485e495b72856dc06cc18a8dd38c115c6d6d9a76449ebf48f"), looks := false }, kinds := [], alts := [], laidByText := true, laidKinds := [.data, .data, .data], laidTests := true, laidLooks := .later }
def FnExactHeightTextCardSaid : Prop := Claim7.holds Tryd.pinned (.plain (OpenSpec.ofChange fnExactHeightTextSpec)) fnExactHeightTextCard

/-- THE TIED CARD OF 'laws.FnExactParseHeight'. -/
def fnExactParseHeightCard : Claim7 := { stood := { row := fnExactParseHeightRow, standIns := [], harness := (true, "d12cd82fdd0f238485e495b72856dc06cc18a8dd38c115c6d6d9a76449ebf48f"), looks := false }, kinds := [], alts := [], laidByText := true, laidKinds := [.data, .data, .data], laidTests := true, laidLooks := .later }
def FnExactParseHeightCardSaid : Prop := Claim7.holds Tryd.pinned (.plain (OpenSpec.ofChange fnExactParseHeightSpec)) fnExactParseHeightCard

/-- THE SECOND FORM's CARD OF 'laws.FnHeights'. -/
def fnHeightsUptoCard : Claim7 := { stood := { row := fnHeightsUptoRow, standIns := [], harness := (true, "d12cd82fdd0f238485e495b72856dc06cc18a8dd38c115c6d6d9a76449ebf48f"), looks := false }, kinds := [], alts := [], laidByText := true, laidKinds := [.data, .data, .data], laidTests := true, laidLooks := .later }
def FnHeightsUptoCardSaid : Prop := Claim7.holds Tryd.pinned (.plain (OpenSpec.upto fnHeightsSpec)) fnHeightsUptoCard

/-- THE SECOND FORM's CARD OF 'laws.FnExactHeightText'. -/
def fnExactHeightTextUptoCard : Claim7 := { stood := { row := fnExactHeightTextUptoRow, standIns := [], harness := (true, "d12cd82fdd0f238485e495b72856dc06cc18a8dd38c115c6d6d9a76449ebf48f"), looks := false }, kinds := [], alts := [], laidByText := true, laidKinds := [.data, .data, .data], laidTests := true, laidLooks := .later }
def FnExactHeightTextUptoCardSaid : Prop := Claim7.holds Tryd.pinned (.plain (OpenSpec.upto fnExactHeightTextSpec)) fnExactHeightTextUptoCard

/-- THE SECOND FORM's CARD OF 'laws.FnExactParseHeight'. -/
def fnExactParseHeightUptoCard : Claim7 := { stood := { row := fnExactParseHeightUptoRow, standIns := [], harness := (true, "d12cd82fdd0f238485e495b72856dc06cc18a8dd38c115c6d6d9a76449ebf48f"), looks := false }, kinds := [], alts := [], laidByText := true, laidKinds := [.data, .data, .data], laidTests := true, laidLooks := .later }
def FnExactParseHeightUptoCardSaid : Prop := Claim7.holds Tryd.pinned (.plain (OpenSpec.upto fnExactParseHeightSpec)) fnExactParseHeightUptoCard
end Rows
end Go.Proofs.YtbjlhnhmdhjleaaDoor
