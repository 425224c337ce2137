/-
  DERIVED. GIVEN WITH THE SEED: THE CARDS: each row of YtdeghpihcddlgaaDoorRows.lean that lists a variable, with what it lists TIED to the program's text (the seventh form; the later family's looks); each row that meets fmt, with fmt's text TOLD by the authors' own Lean function (tested against real Go, not proved from fmt's source: count such statements apart). THE CARD IS WHAT COUNTS. Prove the row's statement (the work); the ties are given (YtdeghpihcddlgaaDoorTie.lean); close each card by the builder's one call (the guide's Derived/Test/ToyasCard.lean, 'card_holds'). Laid BY PROGRAM, IN A SANDBOX (cutbox-door.mjs). By AI agents, Wed Nov 11 2026. No macro, syntax, notation, axiom, sorry.
-/
import Derived.Test.YtdeghpihcddlgaaDoorRows
import GoSem.ClaimSeven
namespace Go.Proofs.YtdeghpihcddlgaaDoor
namespace Rows

/-- THE TIED CARD OF 'laws.FnVelocities'. -/
def fnVelocitiesCard : Claim7 := { stood := { row := fnVelocitiesRow, standIns := [], harness := (true, "602b7fa2ed58f92f4c24620c2a57e3fe48755f4787f51ec40aa7b6d4e7375219"), looks := false }, kinds := [], alts := [], laidByText := true, laidKinds := [.data, .data, .data], laidTests := true, laidLooks := .later }
def FnVelocitiesCardSaid : Prop := Claim7.holds Tryd.pinned (.plain (OpenSpec.ofChange fnVelocitiesSpec)) fnVelocitiesCard

/-- THE SECOND FORM's CARD OF 'laws.FnVelocities'. -/
def fnVelocitiesUptoCard : Claim7 := { stood := { row := fnVelocitiesUptoRow, standIns := [], harness := (true, "602b7fa2ed58f92f4c24620c2a57e3fe48755f4787f51ec40aa7b6d4e7375219"), looks := false }, kinds := [], alts := [], laidByText := true, laidKinds := [.data, .data, .data], laidTests := true, laidLooks := .later }
def FnVelocitiesUptoCardSaid : Prop := Claim7.holds Tryd.pinned (.plain (OpenSpec.upto fnVelocitiesSpec)) fnVelocitiesUptoCard
end Rows
end Go.Proofs.YtdeghpihcddlgaaDoor
