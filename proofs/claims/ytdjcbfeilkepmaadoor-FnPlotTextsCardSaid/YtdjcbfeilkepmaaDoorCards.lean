/-
  DERIVED. GIVEN WITH THE SEED: THE CARDS: each row of YtdjcbfeilkepmaaDoorRows.lean that lists a variable, with what it lists TIED to the program's text (the seventh form; the later family's looks); each row that meets fmt, with fmt's text TOLD by the authors' own Lean function (tested against real Go, not proved from fmt's source: count such statements apart). THE CARD IS WHAT COUNTS. Prove the row's statement (the work); the ties are given (YtdjcbfeilkepmaaDoorTie.lean); close each card by the builder's one call (the guide's Derived/Test/ToyasCard.lean, 'card_holds'). Laid BY PROGRAM, IN A SANDBOX (cutbox-door.mjs). By AI agents, Wed Nov 11 2026. No macro, syntax, notation, axiom, sorry.
-/
import Derived.Test.YtdjcbfeilkepmaaDoorRows
import GoSem.ClaimSeven
namespace Go.Proofs.YtdjcbfeilkepmaaDoor
namespace Rows

/-- THE TIED CARD OF 'laws.FnPlotTexts'. -/
def fnPlotTextsCard : Claim7 := { stood := { row := fnPlotTextsRow, standIns := [], harness := (true, "c764daddeec026e5b96b377e3caa62fcc7f1f048acd319df66eee1f211368b97"), looks := false }, kinds := [], alts := [], laidByText := true, laidKinds := [.data, .data, .data], laidTests := true, laidLooks := .later }
def FnPlotTextsCardSaid : Prop := Claim7.holds Tryd.pinned (.plain (OpenSpec.ofChange fnPlotTextsSpec)) fnPlotTextsCard

/-- THE TIED CARD OF 'laws.FnExactPlotText'. -/
def fnExactPlotTextCard : Claim7 := { stood := { row := fnExactPlotTextRow, standIns := [], harness := (true, "c764daddeec026e5b96b377e3caa62fcc7f1f048acd319df66eee1f211368b97"), looks := false }, kinds := [], alts := [], laidByText := true, laidKinds := [.data, .data, .data], laidTests := true, laidLooks := .later }
def FnExactPlotTextCardSaid : Prop := Claim7.holds Tryd.pinned (.plain (OpenSpec.ofChange fnExactPlotTextSpec)) fnExactPlotTextCard

/-- THE TIED CARD OF 'laws.FnExactParsePlot'. -/
def fnExactParsePlotCard : Claim7 := { stood := { row := fnExactParsePlotRow, standIns := [], harness := (true, "c764daddeec026e5b96b377e3caa62fcc7f1f048acd319df66eee1f211368b97"), looks := false }, kinds := [], alts := [], laidByText := true, laidKinds := [.data, .data, .data], laidTests := true, laidLooks := .later }
def FnExactParsePlotCardSaid : Prop := Claim7.holds Tryd.pinned (.plain (OpenSpec.ofChange fnExactParsePlotSpec)) fnExactParsePlotCard

/-- THE SECOND FORM's CARD OF 'laws.FnPlotTexts'. -/
def fnPlotTextsUptoCard : Claim7 := { stood := { row := fnPlotTextsUptoRow, standIns := [], harness := (true, "c764daddeec026e5b96b377e3caa62fcc7f1f048acd319df66eee1f211368b97"), looks := false }, kinds := [], alts := [], laidByText := true, laidKinds := [.data, .data, .data], laidTests := true, laidLooks := .later }
def FnPlotTextsUptoCardSaid : Prop := Claim7.holds Tryd.pinned (.plain (OpenSpec.upto fnPlotTextsSpec)) fnPlotTextsUptoCard

/-- THE SECOND FORM's CARD OF 'laws.FnExactPlotText'. -/
def fnExactPlotTextUptoCard : Claim7 := { stood := { row := fnExactPlotTextUptoRow, standIns := [], harness := (true, "c764daddeec026e5b96b377e3caa62fcc7f1f048acd319df66eee1f211368b97"), looks := false }, kinds := [], alts := [], laidByText := true, laidKinds := [.data, .data, .data], laidTests := true, laidLooks := .later }
def FnExactPlotTextUptoCardSaid : Prop := Claim7.holds Tryd.pinned (.plain (OpenSpec.upto fnExactPlotTextSpec)) fnExactPlotTextUptoCard

/-- THE SECOND FORM's CARD OF 'laws.FnExactParsePlot'. -/
def fnExactParsePlotUptoCard : Claim7 := { stood := { row := fnExactParsePlotUptoRow, standIns := [], harness := (true, "c764daddeec026e5b96b377e3caa62fcc7f1f048acd319df66eee1f211368b97"), looks := false }, kinds := [], alts := [], laidByText := true, laidKinds := [.data, .data, .data], laidTests := true, laidLooks := .later }
def FnExactParsePlotUptoCardSaid : Prop := Claim7.holds Tryd.pinned (.plain (OpenSpec.upto fnExactParsePlotSpec)) fnExactParsePlotUptoCard
end Rows
end Go.Proofs.YtdjcbfeilkepmaaDoor
