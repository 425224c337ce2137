/-
  DERIVED. GIVEN WITH THE SEED: THE CARDS: each row of YtedocpocfpopgaaDoorRows.lean that lists a variable, with what it lists TIED to the program's text (the seventh form; the later family's looks); each row that meets fmt, with fmt's text TOLD by the authors' own Lean function (tested against real Go, not proved from fmt's source: count such statements apart). THE CARD IS WHAT COUNTS. Prove the row's statement (the work); the ties are given (YtedocpocfpopgaaDoorTie.lean); close each card by the builder's one call (the guide's Derived/Test/ToyasCard.lean, 'card_holds'). Laid BY PROGRAM, IN A SANDBOX (cutbox-door.mjs). By AI agents, Wed Nov 11 2026. No macro, syntax, notation, axiom, sorry.
-/
import Derived.Test.YtedocpocfpopgaaDoorRows
import GoSem.ClaimSeven
namespace Go.Proofs.YtedocpocfpopgaaDoor
namespace Rows

/-- THE TIED CARD OF 'laws.FnExactUpdateTracks'. -/
def fnExactUpdateTracksCard : Claim7 := { stood := { row := fnExactUpdateTracksRow, standIns := [], harness := (true, "58d0884be2bfcbb4760823b9db32b8f469b5fedc6c125fd4b13775ed90f8b124"), looks := true }, kinds := [], alts := [], laidByText := true, laidKinds := [.handle, .sentinel], laidTests := true, laidLooks := .later }
def FnExactUpdateTracksCardSaid : Prop := Claim7.holds Tryd.pinned (.plain (OpenSpec.ofChange fnExactUpdateTracksSpec)) fnExactUpdateTracksCard

/-- THE TIED CARD OF 'laws.FnExactParseTrackLine'. -/
def fnExactParseTrackLineCard : Claim7 := { stood := { row := fnExactParseTrackLineRow, standIns := [], harness := (true, "58d0884be2bfcbb4760823b9db32b8f469b5fedc6c125fd4b13775ed90f8b124"), looks := true }, kinds := [], alts := [], laidByText := true, laidKinds := [.data, .data, .data, .data], laidTests := true, laidLooks := .later }
def FnExactParseTrackLineCardSaid : Prop := Claim7.holds Tryd.pinned (.plain (OpenSpec.ofChange fnExactParseTrackLineSpec)) fnExactParseTrackLineCard

/-- THE TIED CARD OF 'laws.FnScans'. -/
def fnScansCard : Claim7 := { stood := { row := fnScansRow, standIns := [], harness := (true, "58d0884be2bfcbb4760823b9db32b8f469b5fedc6c125fd4b13775ed90f8b124"), looks := true }, kinds := [], alts := [], laidByText := true, laidKinds := [.handle, .sentinel], laidTests := true, laidLooks := .later }
def FnScansCardSaid : Prop := Claim7.holds Tryd.pinned (.plain (OpenSpec.ofChange fnScansSpec)) fnScansCard

/-- THE SECOND FORM's CARD OF 'laws.FnExactUpdateTracks'. -/
def fnExactUpdateTracksUptoCard : Claim7 := { stood := { row := fnExactUpdateTracksUptoRow, standIns := [], harness := (true, "58d0884be2bfcbb4760823b9db32b8f469b5fedc6c125fd4b13775ed90f8b124"), looks := true }, kinds := [], alts := [], laidByText := true, laidKinds := [.handle, .sentinel], laidTests := true, laidLooks := .later }
def FnExactUpdateTracksUptoCardSaid : Prop := Claim7.holds Tryd.pinned (.plain (OpenSpec.upto fnExactUpdateTracksSpec)) fnExactUpdateTracksUptoCard

/-- THE SECOND FORM's CARD OF 'laws.FnExactParseTrackLine'. -/
def fnExactParseTrackLineUptoCard : Claim7 := { stood := { row := fnExactParseTrackLineUptoRow, standIns := [], harness := (true, "58d0884be2bfcbb4760823b9db32b8f469b5fedc6c125fd4b13775ed90f8b124"), looks := true }, kinds := [], alts := [], laidByText := true, laidKinds := [.data, .data, .data, .data], laidTests := true, laidLooks := .later }
def FnExactParseTrackLineUptoCardSaid : Prop := Claim7.holds Tryd.pinned (.plain (OpenSpec.upto fnExactParseTrackLineSpec)) fnExactParseTrackLineUptoCard

/-- THE SECOND FORM's CARD OF 'laws.FnScans'. -/
def fnScansUptoCard : Claim7 := { stood := { row := fnScansUptoRow, standIns := [], harness := (true, "58d0884be2bfcbb4760823b9db32b8f469b5fedc6c125fd4b13775ed90f8b124"), looks := true }, kinds := [], alts := [], laidByText := true, laidKinds := [.handle, .sentinel], laidTests := true, laidLooks := .later }
def FnScansUptoCardSaid : Prop := Claim7.holds Tryd.pinned (.plain (OpenSpec.upto fnScansSpec)) fnScansUptoCard
end Rows
end Go.Proofs.YtedocpocfpopgaaDoor
