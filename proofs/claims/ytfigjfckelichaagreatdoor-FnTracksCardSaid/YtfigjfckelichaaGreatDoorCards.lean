/-
  DERIVED. GIVEN WITH THE SEED: THE CARDS: each row of YtfigjfckelichaaGreatDoorRows.lean that lists a variable, with what it lists TIED to the program's text (the seventh form; the later family's looks); each row that meets fmt, with fmt's text TOLD by the authors' own Lean function (tested against real Go, not proved from fmt's source: count such statements apart). THE CARD IS WHAT COUNTS. Prove the row's statement (the work); the ties are given (YtfigjfckelichaaGreatDoorTie.lean); close each card by the builder's one call (the guide's Derived/Test/ToyasCard.lean, 'card_holds'). Laid BY PROGRAM, IN A SANDBOX (cutbox-door.mjs). By AI agents, Wed Nov 11 2026. No macro, syntax, notation, axiom, sorry.
-/
import Derived.Test.YtfigjfckelichaaGreatDoorRows
import GoSem.ClaimSeven
namespace Go.Proofs.YtfigjfckelichaaGreatDoor
namespace Rows

/-- THE TIED CARD OF 'laws.FnTracks'. -/
def fnTracksCard : Claim7 := { stood := { row := fnTracksRow, standIns := [], harness := (true, "3312b109cab592cb80d7160b0f7e2eff0e2e4b0b63d18be70c44a58c35489d11"), looks := true }, kinds := [], alts := [], laidByText := true, laidKinds := [.data, .data, .data, .handle, .data, .sentinel], laidTests := true, laidLooks := .later }
def FnTracksCardSaid : Prop := Claim7.holds Tryz.pinned (.plain (OpenSpec.ofChange fnTracksSpec)) fnTracksCard

/-- THE TIED CARD OF 'laws.FnUpdates'. -/
def fnUpdatesCard : Claim7 := { stood := { row := fnUpdatesRow, standIns := [], harness := (true, "3312b109cab592cb80d7160b0f7e2eff0e2e4b0b63d18be70c44a58c35489d11"), looks := true }, kinds := [], alts := [], laidByText := true, laidKinds := [.handle, .sentinel], laidTests := true, laidLooks := .later }
def FnUpdatesCardSaid : Prop := Claim7.holds Tryz.pinned (.plain (OpenSpec.ofChange fnUpdatesSpec)) fnUpdatesCard

/-- THE SECOND FORM's CARD OF 'laws.FnTracks'. -/
def fnTracksUptoCard : Claim7 := { stood := { row := fnTracksUptoRow, standIns := [], harness := (true, "3312b109cab592cb80d7160b0f7e2eff0e2e4b0b63d18be70c44a58c35489d11"), looks := true }, kinds := [], alts := [], laidByText := true, laidKinds := [.data, .data, .data, .handle, .data, .sentinel], laidTests := true, laidLooks := .later }
def FnTracksUptoCardSaid : Prop := Claim7.holds Tryz.pinned (.plain (OpenSpec.upto fnTracksSpec)) fnTracksUptoCard

/-- THE SECOND FORM's CARD OF 'laws.FnUpdates'. -/
def fnUpdatesUptoCard : Claim7 := { stood := { row := fnUpdatesUptoRow, standIns := [], harness := (true, "3312b109cab592cb80d7160b0f7e2eff0e2e4b0b63d18be70c44a58c35489d11"), looks := true }, kinds := [], alts := [], laidByText := true, laidKinds := [.handle, .sentinel], laidTests := true, laidLooks := .later }
def FnUpdatesUptoCardSaid : Prop := Claim7.holds Tryz.pinned (.plain (OpenSpec.upto fnUpdatesSpec)) fnUpdatesUptoCard
end Rows
end Go.Proofs.YtfigjfckelichaaGreatDoor
