/- impl's tracks: stateWith. -/
import Derived.Test.YtmandeiiaioodaaTrkM
import Derived.Test.YtmandeiiaioodaaTrkE
import Derived.Test.YtmandeiiaioodaaPosJ
import Derived.Test.YtmandeiiaioodaaTailH
import Derived.OwnWalk
import Derived.Deep.RegionHeld3
import Derived.Deep.CutRange
namespace Go.Proofs.Ytmandeiiaioodaa.trki
open Go.RowKit Go.Proofs.Ytmandeiiaioodaa.ints Go.Proofs.Ytmandeiiaioodaa.lst Go.Proofs.Ytmandeiiaioodaa.in_ Go.Proofs.Ytmandeiiaioodaa.ats Go.Proofs.Ytmandeiiaioodaa.pos Go.Proofs.Ytmandeiiaioodaa.trk Go.Proofs.Ytmandeiiaioodaa.tailh

theorem stateWith (h l : Int) (w : World) : Calls Try.prog 60 #[.int .i64 h, .int .i64 l] w fun e w' => e = .returned (.int .i64 (sw h l)) ∧ w = w' := by
  unfold sw
  by_cases h3 : 3 ≤ h
  · rw [if_pos h3]
    have g1 : decide (3 ≤ h) = true := decide_eq_true h3
    by_cases h0 : l = 0
    · rw [if_pos h0]
      have g2 : (l == 0) = true := beq_iff_eq.mpr h0
      clear h3 h0
      go_enter Try.func60, Try.ntmps60
      go_wp2_with fail
      go_ret
      exact ⟨rfl, rfl⟩
    · rw [if_neg h0]
      have g2 : (l == 0) = false := beq_eq_false_iff_ne.mpr h0
      clear h3 h0
      go_enter Try.func60, Try.ntmps60
      go_wp2_with fail
      go_ret
      exact ⟨rfl, rfl⟩
  · rw [if_neg h3]
    have g1 : decide (3 ≤ h) = false := decide_eq_false h3
    by_cases h0 : l = 0
    · rw [if_pos h0]
      have g2 : (l == 0) = true := beq_iff_eq.mpr h0
      clear h3 h0
      go_enter Try.func60, Try.ntmps60
      go_wp2_with fail
      go_ret
      exact ⟨rfl, rfl⟩
    · rw [if_neg h0]
      have g2 : (l == 0) = false := beq_eq_false_iff_ne.mpr h0
      clear h3 h0
      go_enter Try.func60, Try.ntmps60
      go_wp2_with fail
      go_ret
      exact ⟨rfl, rfl⟩

end Go.Proofs.Ytmandeiiaioodaa.trki
