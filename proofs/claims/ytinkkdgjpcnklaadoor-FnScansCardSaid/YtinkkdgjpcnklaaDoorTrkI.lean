/- impl's tracks: stateWith. -/
import Derived.Test.YtinkkdgjpcnklaaDoorTrkM
import Derived.Test.YtinkkdgjpcnklaaDoorTrkE
import Derived.Test.YtinkkdgjpcnklaaDoorPosJ
import Derived.Test.YtinkkdgjpcnklaaDoorTailH
import Derived.OwnWalk
import Derived.Deep.RegionHeld3
import Derived.Deep.CutRange
namespace Go.Proofs.YtinkkdgjpcnklaaDoor.trki
open Go.RowKit Go.Proofs.YtinkkdgjpcnklaaDoor.ints Go.Proofs.YtinkkdgjpcnklaaDoor.lst Go.Proofs.YtinkkdgjpcnklaaDoor.in_ Go.Proofs.YtinkkdgjpcnklaaDoor.ats Go.Proofs.YtinkkdgjpcnklaaDoor.pos Go.Proofs.YtinkkdgjpcnklaaDoor.trk Go.Proofs.YtinkkdgjpcnklaaDoor.tailh

theorem stateWith (h l : Int) (w : World) : Calls Tryd.prog 50 #[.int .i64 h, .int .i64 l] w fun e w' => e = .returned (.int .i64 (sw h l)) ∧ w = w' := by
  unfold sw
  by_cases h3 : 3 ≤ h
  · rw [if_pos h3]
    have g1 : decide (3 ≤ h) = true := decide_eq_true h3
    by_cases h0 : l = 0
    · rw [if_pos h0]
      have g2 : (l == 0) = true := beq_iff_eq.mpr h0
      clear h3 h0
      go_enter Tryd.func50, Tryd.ntmps50
      go_wp2_with fail
      go_ret
      exact ⟨rfl, rfl⟩
    · rw [if_neg h0]
      have g2 : (l == 0) = false := beq_eq_false_iff_ne.mpr h0
      clear h3 h0
      go_enter Tryd.func50, Tryd.ntmps50
      go_wp2_with fail
      go_ret
      exact ⟨rfl, rfl⟩
  · rw [if_neg h3]
    have g1 : decide (3 ≤ h) = false := decide_eq_false h3
    by_cases h0 : l = 0
    · rw [if_pos h0]
      have g2 : (l == 0) = true := beq_iff_eq.mpr h0
      clear h3 h0
      go_enter Tryd.func50, Tryd.ntmps50
      go_wp2_with fail
      go_ret
      exact ⟨rfl, rfl⟩
    · rw [if_neg h0]
      have g2 : (l == 0) = false := beq_eq_false_iff_ne.mpr h0
      clear h3 h0
      go_enter Tryd.func50, Tryd.ntmps50
      go_wp2_with fail
      go_ret
      exact ⟨rfl, rfl⟩

end Go.Proofs.YtinkkdgjpcnklaaDoor.trki
