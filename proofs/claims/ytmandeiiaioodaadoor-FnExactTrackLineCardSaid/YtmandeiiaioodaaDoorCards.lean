/-
  DERIVED. GIVEN WITH THE SEED: THE CARDS: each row of YtmandeiiaioodaaDoorRows.lean that lists a variable, with what it lists TIED to the program's text (the seventh form; the later family's looks); each row that meets fmt, with fmt's text TOLD by the authors' own Lean function (tested against real Go, not proved from fmt's source: count such statements apart). THE CARD IS WHAT COUNTS. Prove the row's statement (the work); the ties are given (YtmandeiiaioodaaDoorTie.lean); close each card by the builder's one call (the guide's Derived/Test/ToyasCard.lean, 'card_holds'). Laid BY PROGRAM, IN A SANDBOX (cutbox-door.mjs). By AI agents, Wed Nov 11 2026. No macro, syntax, notation, axiom, sorry.
-/
import Derived.Test.YtmandeiiaioodaaDoorRows
import GoSem.ClaimSeven
namespace Go.Proofs.YtmandeiiaioodaaDoor
namespace Rows

/-- THE TIED CARD OF 'laws.FnScans'. -/
def fnScansCard : Claim7 := { stood := { row := fnScansRow, standIns := [], harness := (true, "ba65679866f35bcf34a3f0ca2e7815ca6f0a2dd4bc9d96b3d5f62d6bdb0b1c05"), looks := true }, kinds := [], alts := [], laidByText := true, laidKinds := [.handle, .sentinel], laidTests := true, laidLooks := .later }
def FnScansCardSaid : Prop := Claim7.holds Tryd.pinned (.plain (OpenSpec.ofChange fnScansSpec)) fnScansCard

/-- THE TIED CARD OF 'laws.FnExactHitTrack'. -/
def fnExactHitTrackCard : Claim7 := { stood := { row := fnExactHitTrackRow, standIns := [], harness := (true, "ba65679866f35bcf34a3f0ca2e7815ca6f0a2dd4bc9d96b3d5f62d6bdb0b1c05"), looks := true }, kinds := [], alts := [], laidByText := true, laidKinds := [.handle, .sentinel], laidTests := true, laidLooks := .later }
def FnExactHitTrackCardSaid : Prop := Claim7.holds Tryd.pinned (.plain (OpenSpec.ofChange fnExactHitTrackSpec)) fnExactHitTrackCard

/-- THE TIED CARD OF 'laws.FnExactMissTrack'. -/
def fnExactMissTrackCard : Claim7 := { stood := { row := fnExactMissTrackRow, standIns := [], harness := (true, "ba65679866f35bcf34a3f0ca2e7815ca6f0a2dd4bc9d96b3d5f62d6bdb0b1c05"), looks := true }, kinds := [], alts := [], laidByText := true, laidKinds := [.handle], laidTests := true, laidLooks := .later }
def FnExactMissTrackCardSaid : Prop := Claim7.holds Tryd.pinned (.plain (OpenSpec.ofChange fnExactMissTrackSpec)) fnExactMissTrackCard

/-- THE TIED CARD OF 'laws.FnExactScanTracks'. -/
def fnExactScanTracksCard : Claim7 := { stood := { row := fnExactScanTracksRow, standIns := [], harness := (true, "ba65679866f35bcf34a3f0ca2e7815ca6f0a2dd4bc9d96b3d5f62d6bdb0b1c05"), looks := true }, kinds := [], alts := [], laidByText := true, laidKinds := [.handle, .sentinel], laidTests := true, laidLooks := .later }
def FnExactScanTracksCardSaid : Prop := Claim7.holds Tryd.pinned (.plain (OpenSpec.ofChange fnExactScanTracksSpec)) fnExactScanTracksCard

/-- THE TIED CARD OF 'laws.FnExactTrackLine'. -/
def fnExactTrackLineCard : Claim7 := { stood := { row := fnExactTrackLineRow, standIns := [], harness := (true, "ba65679866f35bcf34a3f0ca2e7815ca6f0a2dd4bc9d96b3d5f62d6bdb0b1c05"), looks := true }, kinds := [], alts := [], laidByText := true, laidKinds := [.data, .data, .data, .data], laidTests := true, laidLooks := .later }
def FnExactTrackLineCardSaid : Prop := Claim7.holds Tryd.pinned (.plain (OpenSpec.ofChange fnExactTrackLineSpec)) fnExactTrackLineCard

/-- THE SECOND FORM's CARD OF 'laws.FnScans'. -/
def fnScansUptoCard : Claim7 := { stood := { row := fnScansUptoRow, standIns := [], harness := (true, "ba65679866f35bcf34a3f0ca2e7815ca6f0a2dd4bc9d96b3d5f62d6bdb0b1c05"), looks := true }, kinds := [], alts := [], laidByText := true, laidKinds := [.handle, .sentinel], laidTests := true, laidLooks := .later }
def FnScansUptoCardSaid : Prop := Claim7.holds Tryd.pinned (.plain (OpenSpec.upto fnScansSpec)) fnScansUptoCard

/-- THE SECOND FORM's CARD OF 'laws.FnExactHitTrack'. -/
def fnExactHitTrackUptoCard : Claim7 := { stood := { row := fnExactHitTrackUptoRow, standIns := [], harness := (true, "ba65679866f35bcf34a3f0ca2e7815ca6f0a2dd4bc9d96b3d5f62d6bdb0b1c05"), looks := true }, kinds := [], alts := [], laidByText := true, laidKinds := [.handle, .sentinel], laidTests := true, laidLooks := .later }
def FnExactHitTrackUptoCardSaid : Prop := Claim7.holds Tryd.pinned (.plain (OpenSpec.upto fnExactHitTrackSpec)) fnExactHitTrackUptoCard

/-- THE SECOND FORM's CARD OF 'laws.FnExactMissTrack'. -/
def fnExactMissTrackUptoCard : Claim7 := { stood := { row := fnExactMissTrackUptoRow, standIns := [], harness := (true, "ba65679866f35bcf34a3f0ca2e7815ca6f0a2dd4bc9d96b3d5f62d6bdb0b1c05"), looks := true }, kinds := [], alts := [], laidByText := true, laidKinds := [.handle], laidTests := true, laidLooks := .later }
def FnExactMissTrackUptoCardSaid : Prop := Claim7.holds Tryd.pinned (.plain (OpenSpec.upto fnExactMissTrackSpec)) fnExactMissTrackUptoCard

/-- THE SECOND FORM's CARD OF 'laws.FnExactScanTracks'. -/
def fnExactScanTracksUptoCard : Claim7 := { stood := { row := fnExactScanTracksUptoRow, standIns := [], harness := (true, "ba65679866f35bcf34a3f0ca2e7815ca6f0a2dd4bc9d96b3d5f62d6bdb0b1c05"), looks := true }, kinds := [], alts := [], laidByText := true, laidKinds := [.handle, .sentinel], laidTests := true, laidLooks := .later }
def FnExactScanTracksUptoCardSaid : Prop := Claim7.holds Tryd.pinned (.plain (OpenSpec.upto fnExactScanTracksSpec)) fnExactScanTracksUptoCard

/-- THE SECOND FORM's CARD OF 'laws.FnExactTrackLine'. -/
def fnExactTrackLineUptoCard : Claim7 := { stood := { row := fnExactTrackLineUptoRow, standIns := [], harness := (true, "ba65679866f35bcf34a3f0ca2e7815ca6f0a2dd4bc9d96b3d5f62d6bdb0b1c05"), looks := true }, kinds := [], alts := [], laidByText := true, laidKinds := [.data, .data, .data, .data], laidTests := true, laidLooks := .later }
def FnExactTrackLineUptoCardSaid : Prop := Claim7.holds Tryd.pinned (.plain (OpenSpec.upto fnExactTrackLineSpec)) fnExactTrackLineUptoCard
end Rows
end Go.Proofs.YtmandeiiaioodaaDoor
