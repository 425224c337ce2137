/- impl's tracks: stateWith. -/
import Derived.Test.YtfigjfckelichaaGreatDoorTrkM
import Derived.Test.YtfigjfckelichaaGreatDoorTrkE
import Derived.Test.YtfigjfckelichaaGreatDoorPosJ
import Derived.Test.YtfigjfckelichaaGreatDoorTailH
import Derived.OwnWalk
import Derived.Deep.RegionHeld3
import Derived.Deep.CutRange
namespace Go.Proofs.YtfigjfckelichaaGreatDoor.trki
open Go.RowKit Go.Proofs.YtfigjfckelichaaGreatDoor.ints Go.Proofs.YtfigjfckelichaaGreatDoor.lst Go.Proofs.YtfigjfckelichaaGreatDoor.in_ Go.Proofs.YtfigjfckelichaaGreatDoor.ats Go.Proofs.YtfigjfckelichaaGreatDoor.pos Go.Proofs.YtfigjfckelichaaGreatDoor.trk Go.Proofs.YtfigjfckelichaaGreatDoor.tailh

theorem stateWith (h l : Int) (w : World) : Calls Tryz.prog 37 #[.int .i64 h, .int .i64 l] w fun e w' => e = .returned (.int .i64 (sw h l)) ∧ w = w' := by
  unfold sw
  by_cases h3 : 3 ≤ h
  · rw [if_pos h3]
    have g1 : decide (3 ≤ h) = true := decide_eq_true h3
    by_cases h0 : l = 0
    · rw [if_pos h0]
      have g2 : (l == 0) = true := beq_iff_eq.mpr h0
      clear h3 h0
      go_enter Tryz.func37, Tryz.ntmps37
      go_wp2_with fail
      go_ret
      exact ⟨rfl, rfl⟩
    · rw [if_neg h0]
      have g2 : (l == 0) = false := beq_eq_false_iff_ne.mpr h0
      clear h3 h0
      go_enter Tryz.func37, Tryz.ntmps37
      go_wp2_with fail
      go_ret
      exact ⟨rfl, rfl⟩
  · rw [if_neg h3]
    have g1 : decide (3 ≤ h) = false := decide_eq_false h3
    by_cases h0 : l = 0
    · rw [if_pos h0]
      have g2 : (l == 0) = true := beq_iff_eq.mpr h0
      clear h3 h0
      go_enter Tryz.func37, Tryz.ntmps37
      go_wp2_with fail
      go_ret
      exact ⟨rfl, rfl⟩
    · rw [if_neg h0]
      have g2 : (l == 0) = false := beq_eq_false_iff_ne.mpr h0
      clear h3 h0
      go_enter Tryz.func37, Tryz.ntmps37
      go_wp2_with fail
      go_ret
      exact ⟨rfl, rfl⟩

end Go.Proofs.YtfigjfckelichaaGreatDoor.trki
