/- For every two velocities the law FnExactAddVelocities returns true: impl.AddVelocities and spec.AddVelocities return the same sum, or both a zero velocity and false. No condition. -/
import Derived.Test.YtchhjjiidfacbaaRows
import Derived.Test.YtchhjjiidfacbaaVelT
import Derived.Test.YtchhjjiidfacbaaVelX
import Derived.Test.YtchhjjiidfacbaaPosX
import Derived.WalkKit
import Derived.ProofKit
import Derived.OpenShut
import Derived.ShutString
import Derived.ChangeOld
import Derived.Below
import Derived.Lib.SmallJoins
import Derived.Lib.QuietBelow
import Derived.Deep.RegionHeld3
import Derived.Deep.CutRange
namespace Go.Proofs.Ytchhjjiidfacbaa.fnExactAddVelocities
open Go.ChangeShapes Go.WideShapes Go.ChangeAt Go.RowKit Go.Joins Go.Proofs.Ytchhjjiidfacbaa.ats
open Go.ChangeMaps (open_string shut_string)
set_option linter.unusedVariables false

theorem bool_ne_self (b : Bool) : (b != b) = false := by simp
theorem int_ne_self (x : Int) : (x != x) = false := by simp

set_option maxRecDepth 100000 in
set_option maxHeartbeats 4000000 in
theorem walk (a00 : Int) (a01 : Int) (a10 : Int) (a11 : Int) (w00 : (Lit.int .i64 a00).wf = true) (w01 : (Lit.int .i64 a01).wf = true) (w10 : (Lit.int .i64 a10).wf = true) (w11 : (Lit.int .i64 a11).wf = true) (w : World) :
    Calls Try.prog 11 #[.agg #[.int .i64 a00, .int .i64 a01], .agg #[.int .i64 a10, .int .i64 a11]] w fun e w' => e = .returned (.bool true) ∧ Below w.heap.size w w' := by
  have n00 := bounds_i64 w00
  have n01 := bounds_i64 w01
  have n10 := bounds_i64 w10
  have n11 := bounds_i64 w11
  have hs := Lib.hid (fun w => velt.addVelocities a00 a01 a10 a11 w)
  have hi := Lib.hid (fun w => vell.addVelocities a00 a01 a10 a11 w)
  have ne1 := bool_ne_self (vel.adB a00 a01 a10 a11)
  clear w00 w01 w10 w11 n00 n01 n10 n11
  generalize vel.adX a00 a01 a10 a11 = x0 at *
  generalize vel.adY a00 a01 a10 a11 = x1 at *
  generalize vel.adB a00 a01 a10 a11 = x2 at *
  have HB0 := Lib.hid (Below.refl w.heap.size w)
  go_enter Try.func11, Try.ntmps11
  have Aa1 := Lib.hid (newS 51 #[.int .i64 a00, .int .i64 a01] w)
  have HB1a := Lib.hid (HB0.out.alloc HB0.out.size (.cells #[.int .i64 a00, .int .i64 a01] 51))
  clear HB0
  have Ab1 : Hid (AtS 51 #[.int .i64 a10, .int .i64 a11] w ((w.alloc (.cells #[.int .i64 a00, .int .i64 a01] 51)).alloc (.cells #[.int .i64 a10, .int .i64 a11] 51)) (w.heap.size + 1)) := Lib.hid (by have := (Aa1.out).next 51 #[.int .i64 a10, .int .i64 a11]; simpa only [World.size_alloc] using this)
  have Aa1xa := Lib.hid (Aa1.out.alloc (.cells #[.int .i64 a10, .int .i64 a11] 51))
  clear Aa1
  have HB1xa := Lib.hid (HB1a.out.alloc HB1a.out.size (.cells #[.int .i64 a10, .int .i64 a11] 51))
  clear HB1a
  go_upto_region 1 with fail
  generalize ((w.alloc (.cells #[.int .i64 a00, .int .i64 a01] 51)).alloc (.cells #[.int .i64 a10, .int .i64 a11] 51)) = V2 at *
  have CS3 := Lib.hid (show ∀ WZ : World, Below V2.heap.size V2 WZ → WZ.cell? ⟨w.heap.size, 0, none⟩ = some (.int .i64 a00) ∧ WZ.cell? ⟨w.heap.size, 1, none⟩ = some (.int .i64 a01) ∧ WZ.cell? ⟨w.heap.size + 1, 0, none⟩ = some (.int .i64 a10) ∧ WZ.cell? ⟨w.heap.size + 1, 1, none⟩ = some (.int .i64 a11) from fun WZ hz => And.intro (posx.at_cell (Aa1xa.out.old hz) 0 (.int .i64 a00) rfl) (And.intro (posx.at_cell (Aa1xa.out.old hz) 1 (.int .i64 a01) rfl) (And.intro (posx.at_cell (Ab1.out.old hz) 0 (.int .i64 a10) rfl) (posx.at_cell (Ab1.out.old hz) 1 (.int .i64 a11) rfl))))
  go_cut [5, 6] from 10 to 19 (fun p3 q30 wz => ∃ b, p3 = .pointer (some ⟨b, 0, none⟩) ∧ q30 = .bool x2 ∧ AtS 44 #[.int .i64 x0, .int .i64 x1] V2 wz b)
  case first =>
    go_region_held3 (fun w' => w'.cell? ⟨w.heap.size, 0, none⟩ = some (.int .i64 a00) ∧ w'.cell? ⟨w.heap.size, 1, none⟩ = some (.int .i64 a01) ∧ w'.cell? ⟨w.heap.size + 1, 0, none⟩ = some (.int .i64 a10) ∧ w'.cell? ⟨w.heap.size + 1, 1, none⟩ = some (.int .i64 a11)) (first
      | exact CS3.out _ ((Below.refl V2.heap.size V2).drew)
      | exact CS3.out _ (by assumption)
      | exact CS3.out _ (((Below.refl V2.heap.size V2).alloc (Nat.le_refl _) (.cells #[.int .i64 0, .int .i64 0] 44)).drew)
      | exact CS3.out _ (Below.alloc (by assumption) (Below.size (by assumption)) (.cells #[.int .i64 0, .int .i64 0] 44))
      | exact CS3.out _ (AtS.set (AtS.set ((by assumption : AtS 44 #[.int .i64 0, .int .i64 0] V2 _ _)) 0 (.int .i64 x0)) 1 (.int .i64 x1)).1
      | exact CS3.out _ (AtS.set (AtS.set (AtS.drew (newS 44 #[.int .i64 0, .int .i64 0] V2)) 0 (.int .i64 x0)) 1 (.int .i64 x1)).1
      | exact CS3.out _ (AtS.set (AtS.set (posx.at_next 44 #[.int .i64 0, .int .i64 0] (by assumption)) 0 (.int .i64 x0)) 1 (.int .i64 x1)).1
      | exact CS3.out _ (Below.alloc (by assumption) (Below.size (by assumption)) (.cells #[.int .i64 x0, .int .i64 x1] 44))
      | exact CS3.out _ (AtS.set (AtS.set (newS 44 #[.int .i64 0, .int .i64 0] V2) 0 (.int .i64 x0)) 1 (.int .i64 x1)).drew.1
      | go_keep) (first
      | (go_at_call 38; (with_reducible refine (velx.toVelocity a00 a01 _).mono ?_); rintro e w' ⟨rfl, hb⟩
         have hbl := posx.bl_next (V := V2) (by first | exact (Below.refl V2.heap.size V2).drew | assumption | exact ((Below.refl V2.heap.size V2).alloc (Nat.le_refl _) (.cells #[.int .i64 0, .int .i64 0] 44)).drew | exact Below.alloc (by assumption) (Below.size (by assumption)) (.cells #[.int .i64 0, .int .i64 0] 44)) hb
         first
           | (have hnu : AtS 44 #[.int .i64 0, .int .i64 0] V2 _ _ := AtS.old ((by assumption : AtS 44 #[.int .i64 0, .int .i64 0] V2 _ _)) hb; have z0 := posx.at_cell hnu 0 (.int .i64 0) rfl; have y0 := AtS.frozen hnu 0; have z1 := posx.at_cell hnu 1 (.int .i64 0) rfl; have y1 := AtS.frozen hnu 1; clear hb)
           | (have hnu : AtS 44 #[.int .i64 0, .int .i64 0] V2 _ _ := AtS.old (AtS.drew (newS 44 #[.int .i64 0, .int .i64 0] V2)) hb; have z0 := posx.at_cell hnu 0 (.int .i64 0) rfl; have y0 := AtS.frozen hnu 0; have z1 := posx.at_cell hnu 1 (.int .i64 0) rfl; have y1 := AtS.frozen hnu 1; clear hb)
           | (have hnu : AtS 44 #[.int .i64 0, .int .i64 0] V2 _ _ := AtS.old (posx.at_next 44 #[.int .i64 0, .int .i64 0] (by assumption)) hb; have z0 := posx.at_cell hnu 0 (.int .i64 0) rfl; have y0 := AtS.frozen hnu 0; have z1 := posx.at_cell hnu 1 (.int .i64 0) rfl; have y1 := AtS.frozen hnu 1; clear hb)
           | clear hb)
      | (go_at_call 38; (with_reducible refine (velx.toVelocity a10 a11 _).mono ?_); rintro e w' ⟨rfl, hb⟩
         have hbl := posx.bl_next (V := V2) (by first | exact (Below.refl V2.heap.size V2).drew | assumption | exact ((Below.refl V2.heap.size V2).alloc (Nat.le_refl _) (.cells #[.int .i64 0, .int .i64 0] 44)).drew | exact Below.alloc (by assumption) (Below.size (by assumption)) (.cells #[.int .i64 0, .int .i64 0] 44)) hb
         first
           | (have hnu : AtS 44 #[.int .i64 0, .int .i64 0] V2 _ _ := AtS.old ((by assumption : AtS 44 #[.int .i64 0, .int .i64 0] V2 _ _)) hb; have z0 := posx.at_cell hnu 0 (.int .i64 0) rfl; have y0 := AtS.frozen hnu 0; have z1 := posx.at_cell hnu 1 (.int .i64 0) rfl; have y1 := AtS.frozen hnu 1; clear hb)
           | (have hnu : AtS 44 #[.int .i64 0, .int .i64 0] V2 _ _ := AtS.old (AtS.drew (newS 44 #[.int .i64 0, .int .i64 0] V2)) hb; have z0 := posx.at_cell hnu 0 (.int .i64 0) rfl; have y0 := AtS.frozen hnu 0; have z1 := posx.at_cell hnu 1 (.int .i64 0) rfl; have y1 := AtS.frozen hnu 1; clear hb)
           | (have hnu : AtS 44 #[.int .i64 0, .int .i64 0] V2 _ _ := AtS.old (posx.at_next 44 #[.int .i64 0, .int .i64 0] (by assumption)) hb; have z0 := posx.at_cell hnu 0 (.int .i64 0) rfl; have y0 := AtS.frozen hnu 0; have z1 := posx.at_cell hnu 1 (.int .i64 0) rfl; have y1 := AtS.frozen hnu 1; clear hb)
           | clear hb)
      | (go_at_call 36; (with_reducible refine (hs.out _).mono ?_); rintro e w' ⟨rfl, hb⟩
         have hbl := posx.bl_next (V := V2) (by first | exact (Below.refl V2.heap.size V2).drew | assumption | exact ((Below.refl V2.heap.size V2).alloc (Nat.le_refl _) (.cells #[.int .i64 0, .int .i64 0] 44)).drew | exact Below.alloc (by assumption) (Below.size (by assumption)) (.cells #[.int .i64 0, .int .i64 0] 44)) hb
         first
           | (have hnu : AtS 44 #[.int .i64 0, .int .i64 0] V2 _ _ := AtS.old ((by assumption : AtS 44 #[.int .i64 0, .int .i64 0] V2 _ _)) hb; have z0 := posx.at_cell hnu 0 (.int .i64 0) rfl; have y0 := AtS.frozen hnu 0; have z1 := posx.at_cell hnu 1 (.int .i64 0) rfl; have y1 := AtS.frozen hnu 1; clear hb)
           | (have hnu : AtS 44 #[.int .i64 0, .int .i64 0] V2 _ _ := AtS.old (AtS.drew (newS 44 #[.int .i64 0, .int .i64 0] V2)) hb; have z0 := posx.at_cell hnu 0 (.int .i64 0) rfl; have y0 := AtS.frozen hnu 0; have z1 := posx.at_cell hnu 1 (.int .i64 0) rfl; have y1 := AtS.frozen hnu 1; clear hb)
           | (have hnu : AtS 44 #[.int .i64 0, .int .i64 0] V2 _ _ := AtS.old (posx.at_next 44 #[.int .i64 0, .int .i64 0] (by assumption)) hb; have z0 := posx.at_cell hnu 0 (.int .i64 0) rfl; have y0 := AtS.frozen hnu 0; have z1 := posx.at_cell hnu 1 (.int .i64 0) rfl; have y1 := AtS.frozen hnu 1; clear hb)
           | clear hb))
    all_goals
      go_wp2_with fail
      go_meet
      first
        | exact ⟨_, rfl, rfl, AtS.set (AtS.set ((by assumption : AtS 44 #[.int .i64 0, .int .i64 0] V2 _ _)) 0 (.int .i64 x0)) 1 (.int .i64 x1)⟩
        | exact ⟨_, rfl, rfl, AtS.set (AtS.set (AtS.drew (newS 44 #[.int .i64 0, .int .i64 0] V2)) 0 (.int .i64 x0)) 1 (.int .i64 x1)⟩
        | exact ⟨_, rfl, rfl, AtS.set (AtS.set (posx.at_next 44 #[.int .i64 0, .int .i64 0] (by assumption)) 0 (.int .i64 x0)) 1 (.int .i64 x1)⟩
        | exact ⟨_, rfl, rfl, posx.at_next 44 #[.int .i64 x0, .int .i64 x1] (by assumption)⟩
        | exact ⟨_, rfl, rfl, (AtS.set (AtS.set (newS 44 #[.int .i64 0, .int .i64 0] V2) 0 (.int .i64 x0)) 1 (.int .i64 x1)).drew⟩
  case rest =>
    obtain ⟨g3, rfl, rfl, hg3⟩ := hcut
    have HB3 := Lib.hid (HB1xa.out.trans (hg3.1.mono HB1xa.out.size))
    have Aa3 := Lib.hid (Aa1xa.out.old hg3.1)
    have Ab3 := Lib.hid (Ab1.out.old hg3.1)
    have G3 := Lib.hid (show AtS 44 #[.int .i64 x0, .int .i64 x1] w wc g3 from ⟨HB3.out, Nat.le_trans HB1xa.out.size hg3.2.1, hg3.2.2⟩)
    clear HB1xa Aa1xa Ab1 CS3
    generalize wc = V4 at *
    go_upto_region 2 with fail
    have CS5 := Lib.hid (show ∀ WZ : World, Below V4.heap.size V4 WZ → WZ.cell? ⟨w.heap.size, 0, none⟩ = some (.int .i64 a00) ∧ WZ.cell? ⟨w.heap.size, 1, none⟩ = some (.int .i64 a01) ∧ WZ.cell? ⟨w.heap.size + 1, 0, none⟩ = some (.int .i64 a10) ∧ WZ.cell? ⟨w.heap.size + 1, 1, none⟩ = some (.int .i64 a11) from fun WZ hz => And.intro (posx.at_cell (Aa3.out.old hz) 0 (.int .i64 a00) rfl) (And.intro (posx.at_cell (Aa3.out.old hz) 1 (.int .i64 a01) rfl) (And.intro (posx.at_cell (Ab3.out.old hz) 0 (.int .i64 a10) rfl) (posx.at_cell (Ab3.out.old hz) 1 (.int .i64 a11) rfl))))
    go_cut [7, 8] from 20 to 29 (fun p5 q50 wz => ∃ b, p5 = .pointer (some ⟨b, 0, none⟩) ∧ q50 = .bool x2 ∧ AtS 44 #[.int .i64 x0, .int .i64 x1] V4 wz b)
    case first =>
      go_region_held3 (fun w' => w'.cell? ⟨w.heap.size, 0, none⟩ = some (.int .i64 a00) ∧ w'.cell? ⟨w.heap.size, 1, none⟩ = some (.int .i64 a01) ∧ w'.cell? ⟨w.heap.size + 1, 0, none⟩ = some (.int .i64 a10) ∧ w'.cell? ⟨w.heap.size + 1, 1, none⟩ = some (.int .i64 a11)) (first
        | exact CS5.out _ ((Below.refl V4.heap.size V4).drew)
        | exact CS5.out _ (by assumption)
        | exact CS5.out _ (((Below.refl V4.heap.size V4).alloc (Nat.le_refl _) (.cells #[.int .i64 0, .int .i64 0] 44)).drew)
        | exact CS5.out _ (Below.alloc (by assumption) (Below.size (by assumption)) (.cells #[.int .i64 0, .int .i64 0] 44))
        | exact CS5.out _ (AtS.set (AtS.set ((by assumption : AtS 44 #[.int .i64 0, .int .i64 0] V4 _ _)) 0 (.int .i64 x0)) 1 (.int .i64 x1)).1
        | exact CS5.out _ (AtS.set (AtS.set (AtS.drew (newS 44 #[.int .i64 0, .int .i64 0] V4)) 0 (.int .i64 x0)) 1 (.int .i64 x1)).1
        | exact CS5.out _ (AtS.set (AtS.set (posx.at_next 44 #[.int .i64 0, .int .i64 0] (by assumption)) 0 (.int .i64 x0)) 1 (.int .i64 x1)).1
        | exact CS5.out _ (Below.alloc (by assumption) (Below.size (by assumption)) (.cells #[.int .i64 x0, .int .i64 x1] 44))
        | exact CS5.out _ (AtS.set (AtS.set (newS 44 #[.int .i64 0, .int .i64 0] V4) 0 (.int .i64 x0)) 1 (.int .i64 x1)).drew.1
        | go_keep) (first
        | (go_at_call 38; (with_reducible refine (velx.toVelocity a00 a01 _).mono ?_); rintro e w' ⟨rfl, hb⟩
           have hbl := posx.bl_next (V := V4) (by first | exact (Below.refl V4.heap.size V4).drew | assumption | exact ((Below.refl V4.heap.size V4).alloc (Nat.le_refl _) (.cells #[.int .i64 0, .int .i64 0] 44)).drew | exact Below.alloc (by assumption) (Below.size (by assumption)) (.cells #[.int .i64 0, .int .i64 0] 44)) hb
           first
             | (have hnu : AtS 44 #[.int .i64 0, .int .i64 0] V4 _ _ := AtS.old ((by assumption : AtS 44 #[.int .i64 0, .int .i64 0] V4 _ _)) hb; have z0 := posx.at_cell hnu 0 (.int .i64 0) rfl; have y0 := AtS.frozen hnu 0; have z1 := posx.at_cell hnu 1 (.int .i64 0) rfl; have y1 := AtS.frozen hnu 1; clear hb)
             | (have hnu : AtS 44 #[.int .i64 0, .int .i64 0] V4 _ _ := AtS.old (AtS.drew (newS 44 #[.int .i64 0, .int .i64 0] V4)) hb; have z0 := posx.at_cell hnu 0 (.int .i64 0) rfl; have y0 := AtS.frozen hnu 0; have z1 := posx.at_cell hnu 1 (.int .i64 0) rfl; have y1 := AtS.frozen hnu 1; clear hb)
             | (have hnu : AtS 44 #[.int .i64 0, .int .i64 0] V4 _ _ := AtS.old (posx.at_next 44 #[.int .i64 0, .int .i64 0] (by assumption)) hb; have z0 := posx.at_cell hnu 0 (.int .i64 0) rfl; have y0 := AtS.frozen hnu 0; have z1 := posx.at_cell hnu 1 (.int .i64 0) rfl; have y1 := AtS.frozen hnu 1; clear hb)
             | clear hb)
        | (go_at_call 38; (with_reducible refine (velx.toVelocity a10 a11 _).mono ?_); rintro e w' ⟨rfl, hb⟩
           have hbl := posx.bl_next (V := V4) (by first | exact (Below.refl V4.heap.size V4).drew | assumption | exact ((Below.refl V4.heap.size V4).alloc (Nat.le_refl _) (.cells #[.int .i64 0, .int .i64 0] 44)).drew | exact Below.alloc (by assumption) (Below.size (by assumption)) (.cells #[.int .i64 0, .int .i64 0] 44)) hb
           first
             | (have hnu : AtS 44 #[.int .i64 0, .int .i64 0] V4 _ _ := AtS.old ((by assumption : AtS 44 #[.int .i64 0, .int .i64 0] V4 _ _)) hb; have z0 := posx.at_cell hnu 0 (.int .i64 0) rfl; have y0 := AtS.frozen hnu 0; have z1 := posx.at_cell hnu 1 (.int .i64 0) rfl; have y1 := AtS.frozen hnu 1; clear hb)
             | (have hnu : AtS 44 #[.int .i64 0, .int .i64 0] V4 _ _ := AtS.old (AtS.drew (newS 44 #[.int .i64 0, .int .i64 0] V4)) hb; have z0 := posx.at_cell hnu 0 (.int .i64 0) rfl; have y0 := AtS.frozen hnu 0; have z1 := posx.at_cell hnu 1 (.int .i64 0) rfl; have y1 := AtS.frozen hnu 1; clear hb)
             | (have hnu : AtS 44 #[.int .i64 0, .int .i64 0] V4 _ _ := AtS.old (posx.at_next 44 #[.int .i64 0, .int .i64 0] (by assumption)) hb; have z0 := posx.at_cell hnu 0 (.int .i64 0) rfl; have y0 := AtS.frozen hnu 0; have z1 := posx.at_cell hnu 1 (.int .i64 0) rfl; have y1 := AtS.frozen hnu 1; clear hb)
             | clear hb)
        | (go_at_call 35; (with_reducible refine (hi.out _).mono ?_); rintro e w' ⟨rfl, hb⟩
           have hbl := posx.bl_next (V := V4) (by first | exact (Below.refl V4.heap.size V4).drew | assumption | exact ((Below.refl V4.heap.size V4).alloc (Nat.le_refl _) (.cells #[.int .i64 0, .int .i64 0] 44)).drew | exact Below.alloc (by assumption) (Below.size (by assumption)) (.cells #[.int .i64 0, .int .i64 0] 44)) hb
           first
             | (have hnu : AtS 44 #[.int .i64 0, .int .i64 0] V4 _ _ := AtS.old ((by assumption : AtS 44 #[.int .i64 0, .int .i64 0] V4 _ _)) hb; have z0 := posx.at_cell hnu 0 (.int .i64 0) rfl; have y0 := AtS.frozen hnu 0; have z1 := posx.at_cell hnu 1 (.int .i64 0) rfl; have y1 := AtS.frozen hnu 1; clear hb)
             | (have hnu : AtS 44 #[.int .i64 0, .int .i64 0] V4 _ _ := AtS.old (AtS.drew (newS 44 #[.int .i64 0, .int .i64 0] V4)) hb; have z0 := posx.at_cell hnu 0 (.int .i64 0) rfl; have y0 := AtS.frozen hnu 0; have z1 := posx.at_cell hnu 1 (.int .i64 0) rfl; have y1 := AtS.frozen hnu 1; clear hb)
             | (have hnu : AtS 44 #[.int .i64 0, .int .i64 0] V4 _ _ := AtS.old (posx.at_next 44 #[.int .i64 0, .int .i64 0] (by assumption)) hb; have z0 := posx.at_cell hnu 0 (.int .i64 0) rfl; have y0 := AtS.frozen hnu 0; have z1 := posx.at_cell hnu 1 (.int .i64 0) rfl; have y1 := AtS.frozen hnu 1; clear hb)
             | clear hb))
      all_goals
        go_wp2_with fail
        go_meet
        first
          | exact ⟨_, rfl, rfl, AtS.set (AtS.set ((by assumption : AtS 44 #[.int .i64 0, .int .i64 0] V4 _ _)) 0 (.int .i64 x0)) 1 (.int .i64 x1)⟩
          | exact ⟨_, rfl, rfl, AtS.set (AtS.set (AtS.drew (newS 44 #[.int .i64 0, .int .i64 0] V4)) 0 (.int .i64 x0)) 1 (.int .i64 x1)⟩
          | exact ⟨_, rfl, rfl, AtS.set (AtS.set (posx.at_next 44 #[.int .i64 0, .int .i64 0] (by assumption)) 0 (.int .i64 x0)) 1 (.int .i64 x1)⟩
          | exact ⟨_, rfl, rfl, posx.at_next 44 #[.int .i64 x0, .int .i64 x1] (by assumption)⟩
          | exact ⟨_, rfl, rfl, (AtS.set (AtS.set (newS 44 #[.int .i64 0, .int .i64 0] V4) 0 (.int .i64 x0)) 1 (.int .i64 x1)).drew⟩
    case rest =>
      obtain ⟨g5, rfl, rfl, hg5⟩ := hcut
      have HB5 := Lib.hid (HB3.out.trans (hg5.1.mono HB3.out.size))
      have Aa5 := Lib.hid (Aa3.out.old hg5.1)
      have Ab5 := Lib.hid (Ab3.out.old hg5.1)
      have G5 := Lib.hid (G3.out.old hg5.1)
      have H5 := Lib.hid (show AtS 44 #[.int .i64 x0, .int .i64 x1] w wc g5 from ⟨HB5.out, Nat.le_trans HB3.out.size hg5.2.1, hg5.2.2⟩)
      clear HB3 Aa3 Ab3 G3 CS5
      generalize wc = V6 at *
      have g0_ : V6.cell? ⟨g3, 0, none⟩ = some (.int .i64 x0) := G5.out.cell 0
      have g1_ : V6.cell? ⟨g3, 1, none⟩ = some (.int .i64 x1) := G5.out.cell 1
      have glt_ := G5.out.2.2.1
      have h0_ : V6.cell? ⟨g5, 0, none⟩ = some (.int .i64 x0) := H5.out.cell 0
      have h1_ : V6.cell? ⟨g5, 1, none⟩ = some (.int .i64 x1) := H5.out.cell 1
      have hlt_ := H5.out.2.2.1
      go_wp2_with fail
      clear g0_ g1_ glt_ h0_ h1_ hlt_
      refine (velx.eqVelocity x0 x1 V6).mono ?_
      rintro e V7 ⟨rfl, h7⟩
      have HB7 := Lib.hid (HB5.out.trans (h7.mono HB5.out.size))
      have Aa7 := Lib.hid (Aa5.out.old h7)
      have Ab7 := Lib.hid (Ab5.out.old h7)
      have G7 := Lib.hid (G5.out.old h7)
      have H7 := Lib.hid (H5.out.old h7)
      clear HB5 Aa5 Ab5 G5 H5 h7
      go_wp2_with fail
      go_ret
      exact ⟨rfl, HB7.out⟩


theorem own : ownKnob Try.prog.godebug = none := by kernel_rfl
theorem laidOut : laidOutB Try.prog = true := by kernel_rfl

set_option maxRecDepth 100000 in
theorem lifted (os : Os) (started : os.Started) (H : Type) (enc : TypeId × Value → H) :
    ReturnsInHanded {} Try.checked os 11 .any (Rows.fnExactAddVelocitiesSpec.pre6 enc Try.prog Try.f11 Rows.fnExactAddVelocitiesRow.domain false) (Rows.fnExactAddVelocitiesSpec.post enc Try.prog Try.f11 false true false false) := by
  refine returnsInHanded_of_change (C := Try.checked) own started (by kernel_rfl) Try.func11
    (ChangeSpec.witness6 (enc := enc) (C := Try.checked) false ⟨#[], #[.agg #[.int .i64 0, .int .i64 0], .agg #[.int .i64 0, .int .i64 0]], []⟩ 8 (by kernel_rfl) (by kernel_rfl) (by kernel_rfl) (by kernel_rfl)) ?_
  intro W base args ds gs before hval0 hW hcnd _
  have hval : ∀ (j : Nat) t v, Try.f11.params[j]? = some t → args[j]? = some v → Value.okWide Try.prog W .any base t v := hval0
  have hW' := hW
  obtain ⟨p, q, hA0, hV, rfl, hfz, hnd⟩ := hW
  have hA : DataW.TrodAll enc Try.prog W 0 (fun _ => true) true Try.f11.params.toList args.toList ds p := hA0
  rw [Try.params11] at hA hval
  obtain ⟨v0, vs0, d0, ds0, p0, q0, hargs, rfl, rfl, h0, r0⟩ := trodAll_cons hA
  obtain ⟨v1, vs1, d1, ds1, p1, q1, rfl, rfl, rfl, h1, r1⟩ := trodAll_cons r0
  obtain ⟨rfl, rfl, rfl⟩ := trodAll_nil r1
  obtain rfl : args = #[v0, v1] := by cases args; simp_all
  obtain ⟨rfl, rfl⟩ := trodVars_none hV
  have k0 := h0
  have lt0 : ∀ x ∈ p0, x.block < W.heap.size := by obtain ⟨m, hm⟩ := k0; exact DataW.trod_lt m _ _ _ hm
  obtain ⟨f00, f01, y00, y01, m0, rfl, rfl, rfl, t00, t01⟩ := open_agg2 Try.underlying51 (by kernel_rfl) (by kernel_rfl) (hval 0 51 v0 rfl rfl) h0
  obtain ⟨a00, e00, -, w00⟩ := DataW.trod_int Try.underlying3 t00
  obtain rfl : f00 = .int .i64 a00 := by simpa using e00
  obtain ⟨a01, e01, -, w01⟩ := DataW.trod_int Try.underlying3 t01
  obtain rfl : f01 = .int .i64 a01 := by simpa using e01
  have k1 := h1
  have lt1 : ∀ x ∈ p1, x.block < W.heap.size := by obtain ⟨m, hm⟩ := k1; exact DataW.trod_lt m _ _ _ hm
  obtain ⟨f10, f11, y10, y11, m1, rfl, rfl, rfl, t10, t11⟩ := open_agg2 Try.underlying51 (by kernel_rfl) (by kernel_rfl) (hval 1 51 v1 rfl rfl) h1
  obtain ⟨a10, e10, -, w10⟩ := DataW.trod_int Try.underlying3 t10
  obtain rfl : f10 = .int .i64 a10 := by simpa using e10
  obtain ⟨a11, e11, -, w11⟩ := DataW.trod_int Try.underlying3 t11
  obtain rfl : f11 = .int .i64 a11 := by simpa using e11
  clear hA0 hval0
  refine (walk a00 a01 a10 a11 w00 w01 w10 w11 W).mono fun e W' ⟨he, bel⟩ => ?_
  subst he
  exact ⟨_, rfl, _, _, _, [], _, [], hW', trodAll_mk1 (shut_bool Try.underlying4 _), (trodAll_cons_mk (Below.trod laidOut (by kernel_rfl) (of_decide_eq_true (by kernel_rfl)) k0 bel lt0) (trodAll_cons_mk (Below.trod laidOut (by kernel_rfl) (of_decide_eq_true (by kernel_rfl)) k1 bel lt1) trodAll_mk0)), rfl, bel.frame _, fun h => by cases h⟩

theorem over : Rows.fnExactAddVelocitiesRow.holds Try.pinned (OpenSpec.ofChange Rows.fnExactAddVelocitiesSpec) :=
  OpenClaim.holds_of_wide 11 Try.f11 rfl rfl rfl rfl rfl rfl rfl ⟨rfl, rfl, rfl, rfl, rfl⟩ rfl rfl rfl rfl rfl (by kernel_rfl) Try.func11 (by kernel_rfl)
    (of_decide_eq_true (by kernel_rfl)) (by unfold Func.isWrapper; first | (rw [if_pos (by decide +kernel)]; kernel_rfl) | (rw [if_neg (by decide +kernel)]; exact ⟨rfl, rfl⟩))
    (fun os started H enc _ => lifted os started H enc)

theorem proved : Rows.FnExactAddVelocitiesSaid :=
  over
#print axioms proved
end Go.Proofs.Ytchhjjiidfacbaa.fnExactAddVelocities
