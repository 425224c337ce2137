/-
  DERIVED. GIVEN WITH THE SEED: THE CARDS: each row of YtchhjjiidfacbaaDoorRows.lean that lists a variable, with what it lists TIED to the program's text (the seventh form; the later family's looks); each row that meets fmt, with fmt's text TOLD by the authors' own Lean function (tested against real Go, not proved from fmt's source: count such statements apart). THE CARD IS WHAT COUNTS. Prove the row's statement (the work); the ties are given (YtchhjjiidfacbaaDoorTie.lean); close each card by the builder's one call (the guide's Derived/Test/ToyasCard.lean, 'card_holds'). Laid BY PROGRAM, IN A SANDBOX (cutbox-door.mjs). By AI agents, Wed Nov 11 2026. No macro, syntax, notation, axiom, sorry.
-/
import Derived.Test.YtchhjjiidfacbaaDoorRows
import GoSem.ClaimSeven
namespace Go.Proofs.YtchhjjiidfacbaaDoor
namespace Rows

/-- THE TIED CARD OF 'laws.FnVelocities'. -/
def fnVelocitiesCard : Claim7 := { stood := { row := fnVelocitiesRow, standIns := [], harness := (true, "7aeb07222a579d83a3b7985d3ada27e354e30732b4f99545c83a5eb1d4eadbb9"), looks := false }, kinds := [], alts := [], laidByText := true, laidKinds := [.data, .data, .data], laidTests := true, laidLooks := .later }
def FnVelocitiesCardSaid : Prop := Claim7.holds Tryd.pinned (.plain (OpenSpec.ofChange fnVelocitiesSpec)) fnVelocitiesCard

/-- THE TIED CARD OF 'laws.FnExactVelocityText'. -/
def fnExactVelocityTextCard : Claim7 := { stood := { row := fnExactVelocityTextRow, standIns := [], harness := (true, "7aeb07222a579d83a3b7985d3ada27e354e30732b4f99545c83a5eb1d4eadbb9"), looks := false }, kinds := [], alts := [], laidByText := true, laidKinds := [.data, .data, .data], laidTests := true, laidLooks := .later }
def FnExactVelocityTextCardSaid : Prop := Claim7.holds Tryd.pinned (.plain (OpenSpec.ofChange fnExactVelocityTextSpec)) fnExactVelocityTextCard

/-- THE TIED CARD OF 'laws.FnExactParseVelocity'. -/
def fnExactParseVelocityCard : Claim7 := { stood := { row := fnExactParseVelocityRow, standIns := [], harness := (true, "7aeb07222a579d83a3b7985d3ada27e354e30732b4f99545c83a5eb1d4eadbb9"), looks := false }, kinds := [], alts := [], laidByText := true, laidKinds := [.data, .data, .data], laidTests := true, laidLooks := .later }
def FnExactParseVelocityCardSaid : Prop := Claim7.holds Tryd.pinned (.plain (OpenSpec.ofChange fnExactParseVelocitySpec)) fnExactParseVelocityCard

/-- THE SECOND FORM's CARD OF 'laws.FnVelocities'. -/
def fnVelocitiesUptoCard : Claim7 := { stood := { row := fnVelocitiesUptoRow, standIns := [], harness := (true, "7aeb07222a579d83a3b7985d3ada27e354e30732b4f99545c83a5eb1d4eadbb9"), looks := false }, kinds := [], alts := [], laidByText := true, laidKinds := [.data, .data, .data], laidTests := true, laidLooks := .later }
def FnVelocitiesUptoCardSaid : Prop := Claim7.holds Tryd.pinned (.plain (OpenSpec.upto fnVelocitiesSpec)) fnVelocitiesUptoCard

/-- THE SECOND FORM's CARD OF 'laws.FnExactVelocityText'. -/
def fnExactVelocityTextUptoCard : Claim7 := { stood := { row := fnExactVelocityTextUptoRow, standIns := [], harness := (true, "7aeb07222a579d83a3b7985d3ada27e354e30732b4f99545c83a5eb1d4eadbb9"), looks := false }, kinds := [], alts := [], laidByText := true, laidKinds := [.data, .data, .data], laidTests := true, laidLooks := .later }
def FnExactVelocityTextUptoCardSaid : Prop := Claim7.holds Tryd.pinned (.plain (OpenSpec.upto fnExactVelocityTextSpec)) fnExactVelocityTextUptoCard

/-- THE SECOND FORM's CARD OF 'laws.FnExactParseVelocity'. -/
def fnExactParseVelocityUptoCard : Claim7 := { stood := { row := fnExactParseVelocityUptoRow, standIns := [], harness := (true, "7aeb07222a579d83a3b7985d3ada27e354e30732b4f99545c83a5eb1d4eadbb9"), looks := false }, kinds := [], alts := [], laidByText := true, laidKinds := [.data, .data, .data], laidTests := true, laidLooks := .later }
def FnExactParseVelocityUptoCardSaid : Prop := Claim7.holds Tryd.pinned (.plain (OpenSpec.upto fnExactParseVelocitySpec)) fnExactParseVelocityUptoCard
end Rows
end Go.Proofs.YtchhjjiidfacbaaDoor
