/- For every code of at most 65536 bytes (and trivially for a longer one) the law FnPredictions returns true: times, places, heights and nearest minutes are those of the model; at the time to an X the place has that X, at the time to a height the height is that one, and no minute is nearer than the nearest one. No condition of mine. -/
import Derived.Test.YtinkkdgjpcnklaaRows
import Derived.Test.YtinkkdgjpcnklaaDrawT16
import Derived.Test.YtinkkdgjpcnklaaMotM
import Derived.Test.YtinkkdgjpcnklaaMotA
import Derived.Test.YtinkkdgjpcnklaaMotS
import Derived.Test.YtinkkdgjpcnklaaMotC
import Derived.Test.YtinkkdgjpcnklaaPlcE
import Derived.Test.YtinkkdgjpcnklaaCode
import Derived.WalkKit
import Derived.ProofKit
import Derived.OpenShut
import Derived.ShutString
import Derived.ChangeOld
import Derived.Below
import Derived.BigQuiet
import Derived.Deep.QuietTactic
import Derived.Deep.RegionHeld3
import Derived.Deep.CutRange
import Derived.Deep.CutBlock
namespace Go.Proofs.Ytinkkdgjpcnklaa.fnPredictions
open Go.ChangeShapes Go.WideShapes Go.ChangeAt Go.RowKit
open Go.ChangeMaps (open_string shut_string)
open Go.Proofs.Ytinkkdgjpcnklaa.code_ Go.Proofs.Ytinkkdgjpcnklaa.cur Go.Proofs.Ytinkkdgjpcnklaa.ats Go.Proofs.Ytinkkdgjpcnklaa.mot Go.Proofs.Ytinkkdgjpcnklaa.motm Go.Proofs.Ytinkkdgjpcnklaa.drawt16
set_option linter.unusedVariables false

theorem bool_ne_self (b : Bool) : (b != b) = false := by simp
theorem int_ne_self (b : Int) : (b != b) = false := by simp
theorem bool_eq_self (b : Bool) : (b == b) = true := by simp
theorem int_eq_self (b : Int) : (b == b) = true := by simp

set_option maxRecDepth 100000 in
set_option maxHeartbeats 16000000 in
theorem walk (A : Option Addr) (n c : Nat) (z : List Int) (w : World) (w0 : IsRow .u8 w A n c z) :
    Calls Try.prog 3 #[.slice A n c] w fun e w' => e = .returned (.bool true) ∧ Below w.heap.size w w' := by
  obtain ⟨hby, hnc, -⟩ := bytes_of w0
  clear w0
  have hv := Lib.hid (fun w => rBig A n c w)
  by_cases hbig : (65536 : Int) < (n : Int)
  · clear hby
    go_enter Try.func3, Try.ntmps3
    go_wp2_with fail
    refine (hv.out _).mono ?_
    rintro e w1 ⟨rfl, rfl⟩
    go_wp2_with fail
    go_ret
    exact ⟨rfl, Below.refl _ _⟩
  have hd : decide ((65536 : Int) < (n : Int)) = false := by simpa using hbig
  have hn : n ≤ 65536 := by omega
  have H := Lib.hid hby
  clear hby hbig hnc
  go_enter Try.func3, Try.ntmps3
  go_wp2_with fail
  refine (hv.out _).mono ?_
  rintro e wx ⟨rfl, rfl⟩
  clear hd hv
  have HB0 := Lib.hid (Below.refl w.heap.size w)
  go_wp2_with fail
  refine (timeToX A n c w hn (Bytes_below H.out HB0.out)).mono ?_
  rintro e V1 ⟨x1, y1, u1, v1, h1, c1, t1, rfl, h2⟩
  have HB3 := Lib.hid (HB0.out.trans (h2.mono HB0.out.size))
  clear HB0
  clear h2
  have BX4 := Lib.hid (plce.at_next 28 #[.int .i64 x1, .int .i64 y1, .int .i64 u1, .int .i64 v1, .int .i64 h1, .int .i64 c1] HB3.out)
  clear HB3
  have HBn := Lib.hid BX4.out.1
  have HB5 := HBn
  clear HBn
  go_upto_region 4 with fail
  generalize (V1.alloc (.cells #[.int .i64 x1, .int .i64 y1, .int .i64 u1, .int .i64 v1, .int .i64 h1, .int .i64 c1] 28)) = W1 at *
  have CI := Lib.hid (fun W => mota.timeToX x1 y1 u1 v1 h1 c1 t1 W)
  have CS := Lib.hid (fun W => mots.timeToX x1 y1 u1 v1 h1 c1 t1 W)
  have CP := Lib.hid (fun W => mota.placeAt x1 y1 u1 v1 h1 c1 (twN (txB x1 y1 u1 v1 h1 c1 t1) (t1 - x1) u1) (twD (txB x1 y1 u1 v1 h1 c1 t1) (t1 - x1) u1 : Int) W)
  have F1 := Lib.hid (fun (h : twB (txB x1 y1 u1 v1 h1 c1 t1) (t1 - x1) u1 = true) => tx_back h)
  generalize paV x1 y1 u1 v1 h1 c1 (twN (txB x1 y1 u1 v1 h1 c1 t1) (t1 - x1) u1) (twD (txB x1 y1 u1 v1 h1 c1 t1) (t1 - x1) u1 : Int) x1 u1 = px at *
  generalize paV x1 y1 u1 v1 h1 c1 (twN (txB x1 y1 u1 v1 h1 c1 t1) (t1 - x1) u1) (twD (txB x1 y1 u1 v1 h1 c1 t1) (t1 - x1) u1 : Int) y1 v1 = py at *
  generalize paD x1 y1 u1 v1 h1 c1 (twN (txB x1 y1 u1 v1 h1 c1 t1) (t1 - x1) u1) (twD (txB x1 y1 u1 v1 h1 c1 t1) (t1 - x1) u1 : Int) = pd at *
  generalize paB x1 y1 u1 v1 h1 c1 (twN (txB x1 y1 u1 v1 h1 c1 t1) (t1 - x1) u1) (twD (txB x1 y1 u1 v1 h1 c1 t1) (t1 - x1) u1 : Int) = pb at *
  generalize twN (txB x1 y1 u1 v1 h1 c1 t1) (t1 - x1) u1 = N1 at *
  generalize (twD (txB x1 y1 u1 v1 h1 c1 t1) (t1 - x1) u1 : Int) = D1 at *
  generalize twB (txB x1 y1 u1 v1 h1 c1 t1) (t1 - x1) u1 = O1 at *
  have n1 := int_ne_self N1
  have n2 := int_ne_self D1
  have n3 := bool_ne_self O1
  have km0_ : W1.cell? ⟨V1.heap.size, 0, none⟩ = some (.int .i64 x1) := BX4.out.cell 0
  have km1_ : W1.cell? ⟨V1.heap.size, 1, none⟩ = some (.int .i64 y1) := BX4.out.cell 1
  have km2_ : W1.cell? ⟨V1.heap.size, 2, none⟩ = some (.int .i64 u1) := BX4.out.cell 2
  have km3_ : W1.cell? ⟨V1.heap.size, 3, none⟩ = some (.int .i64 v1) := BX4.out.cell 3
  have km4_ : W1.cell? ⟨V1.heap.size, 4, none⟩ = some (.int .i64 h1) := BX4.out.cell 4
  have km5_ : W1.cell? ⟨V1.heap.size, 5, none⟩ = some (.int .i64 c1) := BX4.out.cell 5
  go_wp2_with fail
  clear km0_ km1_ km2_ km3_ km4_ km5_
  refine (CI.out W1).mono ?_
  rintro e V6 ⟨rfl, h7⟩
  have HB8 := Lib.hid (HB5.out.trans (h7.mono HB5.out.size))
  clear HB5
  have BX9 := Lib.hid (BX4.out.old h7)
  clear BX4
  clear h7
  have km0_ : V6.cell? ⟨V1.heap.size, 0, none⟩ = some (.int .i64 x1) := BX9.out.cell 0
  have km1_ : V6.cell? ⟨V1.heap.size, 1, none⟩ = some (.int .i64 y1) := BX9.out.cell 1
  have km2_ : V6.cell? ⟨V1.heap.size, 2, none⟩ = some (.int .i64 u1) := BX9.out.cell 2
  have km3_ : V6.cell? ⟨V1.heap.size, 3, none⟩ = some (.int .i64 v1) := BX9.out.cell 3
  have km4_ : V6.cell? ⟨V1.heap.size, 4, none⟩ = some (.int .i64 h1) := BX9.out.cell 4
  have km5_ : V6.cell? ⟨V1.heap.size, 5, none⟩ = some (.int .i64 c1) := BX9.out.cell 5
  go_wp2_with fail
  clear km0_ km1_ km2_ km3_ km4_ km5_
  refine (CS.out V6).mono ?_
  rintro e V10 ⟨rfl, h11⟩
  have HB12 := Lib.hid (HB8.out.trans (h11.mono HB8.out.size))
  clear HB8
  have BX13 := Lib.hid (BX9.out.old h11)
  clear BX9
  clear h11
  clear CI CS
  go_upto_if 86 with fail
  go_cut [11, 12, 13, 14] from 87 to 104 (fun p11 p12 p13 p14 wz => Below V10.heap.size V10 wz)
  case first =>
    cases O1
    · go_wp2_with fail
      go_meet
      exact Below.refl _ _
    · obtain ⟨rfl, e1, e2, b1, b2⟩ := F1.out (by trivial)
      subst e1
      subst e2
      have n4 := int_ne_self (t1 * pd)
      generalize hq : t1 * pd = q at *
      have e3 : IntKind.i64.wrap q = q := IntWalk.i64_in _ (by omega)
      clear F1
      have km0_ : V10.cell? ⟨V1.heap.size, 0, none⟩ = some (.int .i64 x1) := BX13.out.cell 0
      have km1_ : V10.cell? ⟨V1.heap.size, 1, none⟩ = some (.int .i64 y1) := BX13.out.cell 1
      have km2_ : V10.cell? ⟨V1.heap.size, 2, none⟩ = some (.int .i64 u1) := BX13.out.cell 2
      have km3_ : V10.cell? ⟨V1.heap.size, 3, none⟩ = some (.int .i64 v1) := BX13.out.cell 3
      have km4_ : V10.cell? ⟨V1.heap.size, 4, none⟩ = some (.int .i64 h1) := BX13.out.cell 4
      have km5_ : V10.cell? ⟨V1.heap.size, 5, none⟩ = some (.int .i64 c1) := BX13.out.cell 5
      go_wp2_with fail
      clear km0_ km1_ km2_ km3_ km4_ km5_
      refine (CP.out V10).mono ?_
      rintro e wp ⟨rfl, hp⟩
      have HP := Lib.hid hp
      clear hp CP
      go_wp2_with fail
      go_meet
      exact HP.out
  case rest =>
    have hbc := hcut
    clear BX13
    have HB14 := Lib.hid (HB12.out.trans (hbc.mono HB12.out.size))
    clear HB12
    clear hbc
    clear CP F1 n1 n2 n3
    generalize wc = VA at *
    go_wp2_with fail
    refine (timeToHeight A n c VA hn (Bytes_below H.out HB14.out)).mono ?_
    rintro e V15 ⟨x2, y2, u2, v2, h2, c2, t2, rfl, h16⟩
    have HB17 := Lib.hid (HB14.out.trans (h16.mono HB14.out.size))
    clear HB14
    clear h16
    have BX18 := Lib.hid (plce.at_next 28 #[.int .i64 x2, .int .i64 y2, .int .i64 u2, .int .i64 v2, .int .i64 h2, .int .i64 c2] HB17.out)
    clear HB17
    have HBn := Lib.hid BX18.out.1
    have HB19 := HBn
    clear HBn
    go_upto_region 13 with fail
    generalize (V15.alloc (.cells #[.int .i64 x2, .int .i64 y2, .int .i64 u2, .int .i64 v2, .int .i64 h2, .int .i64 c2] 28)) = W2 at *
    have CI := Lib.hid (fun W => mota.timeToHeight x2 y2 u2 v2 h2 c2 t2 W)
    have CS := Lib.hid (fun W => mots.timeToHeight x2 y2 u2 v2 h2 c2 t2 W)
    have CP := Lib.hid (fun W => mota.heightAt x2 y2 u2 v2 h2 c2 (twN (thB x2 y2 u2 v2 h2 c2 t2) (t2 - h2) c2) (twD (thB x2 y2 u2 v2 h2 c2 t2) (t2 - h2) c2 : Int) W)
    have F1 := Lib.hid (fun (h : twB (thB x2 y2 u2 v2 h2 c2 t2) (t2 - h2) c2 = true) (h' : (twD (thB x2 y2 u2 v2 h2 c2 t2) (t2 - h2) c2 : Int) ≤ 1000) => th_back h h')
    generalize haN x2 y2 u2 v2 h2 c2 (twN (thB x2 y2 u2 v2 h2 c2 t2) (t2 - h2) c2) (twD (thB x2 y2 u2 v2 h2 c2 t2) (t2 - h2) c2 : Int) = hn2 at *
    generalize haD x2 y2 u2 v2 h2 c2 (twN (thB x2 y2 u2 v2 h2 c2 t2) (t2 - h2) c2) (twD (thB x2 y2 u2 v2 h2 c2 t2) (t2 - h2) c2 : Int) = hd2 at *
    generalize paB x2 y2 u2 v2 h2 c2 (twN (thB x2 y2 u2 v2 h2 c2 t2) (t2 - h2) c2) (twD (thB x2 y2 u2 v2 h2 c2 t2) (t2 - h2) c2 : Int) = pb2 at *
    generalize twN (thB x2 y2 u2 v2 h2 c2 t2) (t2 - h2) c2 = N2 at *
    generalize (twD (thB x2 y2 u2 v2 h2 c2 t2) (t2 - h2) c2 : Int) = D2 at *
    generalize twB (thB x2 y2 u2 v2 h2 c2 t2) (t2 - h2) c2 = O2 at *
    have n1 := int_ne_self N2
    have n2 := int_ne_self D2
    have n3 := bool_ne_self O2
    have km0_ : W2.cell? ⟨V15.heap.size, 0, none⟩ = some (.int .i64 x2) := BX18.out.cell 0
    have km1_ : W2.cell? ⟨V15.heap.size, 1, none⟩ = some (.int .i64 y2) := BX18.out.cell 1
    have km2_ : W2.cell? ⟨V15.heap.size, 2, none⟩ = some (.int .i64 u2) := BX18.out.cell 2
    have km3_ : W2.cell? ⟨V15.heap.size, 3, none⟩ = some (.int .i64 v2) := BX18.out.cell 3
    have km4_ : W2.cell? ⟨V15.heap.size, 4, none⟩ = some (.int .i64 h2) := BX18.out.cell 4
    have km5_ : W2.cell? ⟨V15.heap.size, 5, none⟩ = some (.int .i64 c2) := BX18.out.cell 5
    go_wp2_with fail
    clear km0_ km1_ km2_ km3_ km4_ km5_
    refine (CI.out W2).mono ?_
    rintro e V20 ⟨rfl, h21⟩
    have HB22 := Lib.hid (HB19.out.trans (h21.mono HB19.out.size))
    clear HB19
    have BX23 := Lib.hid (BX18.out.old h21)
    clear BX18
    clear h21
    have km0_ : V20.cell? ⟨V15.heap.size, 0, none⟩ = some (.int .i64 x2) := BX23.out.cell 0
    have km1_ : V20.cell? ⟨V15.heap.size, 1, none⟩ = some (.int .i64 y2) := BX23.out.cell 1
    have km2_ : V20.cell? ⟨V15.heap.size, 2, none⟩ = some (.int .i64 u2) := BX23.out.cell 2
    have km3_ : V20.cell? ⟨V15.heap.size, 3, none⟩ = some (.int .i64 v2) := BX23.out.cell 3
    have km4_ : V20.cell? ⟨V15.heap.size, 4, none⟩ = some (.int .i64 h2) := BX23.out.cell 4
    have km5_ : V20.cell? ⟨V15.heap.size, 5, none⟩ = some (.int .i64 c2) := BX23.out.cell 5
    go_wp2_with fail
    clear km0_ km1_ km2_ km3_ km4_ km5_
    refine (CS.out V20).mono ?_
    rintro e V24 ⟨rfl, h25⟩
    have HB26 := Lib.hid (HB22.out.trans (h25.mono HB22.out.size))
    clear HB22
    have BX27 := Lib.hid (BX23.out.old h25)
    clear BX23
    clear h25
    clear CI CS
    go_upto_region 17 with fail
    go_cut [141] from 137 to 141 (fun s wz => s = .bool (O2 && decide (D2 ≤ 1000)) ∧ wz = V24)
    case first =>
      cases O2
      · go_wp2_with fail
        go_meet
        exact ⟨rfl, rfl⟩
      · go_wp2_with fail
        go_meet
        exact ⟨rfl, rfl⟩
    case rest =>
      obtain ⟨rfl, hwc⟩ := hcut
      obtain rfl : V24 = wc := hwc.symm
      have HR := Lib.hid (fun (h : (O2 && decide (D2 ≤ 1000)) = true) => F1.out (by rw [Bool.and_eq_true] at h; exact h.1) (by rw [Bool.and_eq_true] at h; exact of_decide_eq_true h.2))
      clear F1
      generalize (O2 && decide (D2 ≤ 1000)) = R2 at *
      go_upto_if 141 with fail
      go_cut [21, 22, 23] from 142 to 160 (fun p21 p22 p23 wz => Below V24.heap.size V24 wz)
      case first =>
        cases R2
        · go_wp2_with fail
          go_meet
          exact Below.refl _ _
        · obtain ⟨rfl, rfl, rfl⟩ := HR.out (by trivial)
          clear HR
          have n4 := int_ne_self hn2
          have km0_ : V24.cell? ⟨V15.heap.size, 0, none⟩ = some (.int .i64 x2) := BX27.out.cell 0
          have km1_ : V24.cell? ⟨V15.heap.size, 1, none⟩ = some (.int .i64 y2) := BX27.out.cell 1
          have km2_ : V24.cell? ⟨V15.heap.size, 2, none⟩ = some (.int .i64 u2) := BX27.out.cell 2
          have km3_ : V24.cell? ⟨V15.heap.size, 3, none⟩ = some (.int .i64 v2) := BX27.out.cell 3
          have km4_ : V24.cell? ⟨V15.heap.size, 4, none⟩ = some (.int .i64 h2) := BX27.out.cell 4
          have km5_ : V24.cell? ⟨V15.heap.size, 5, none⟩ = some (.int .i64 c2) := BX27.out.cell 5
          go_wp2_with fail
          clear km0_ km1_ km2_ km3_ km4_ km5_
          refine (CP.out V24).mono ?_
          rintro e wp ⟨rfl, hp⟩
          have HP := Lib.hid hp
          clear hp CP
          go_wp2_with fail
          go_meet
          exact HP.out
      case rest =>
        have hbc := hcut
        clear BX27
        have HB28 := Lib.hid (HB26.out.trans (hbc.mono HB26.out.size))
        clear HB26
        clear hbc
        clear CP HR n1 n2 n3
        generalize wc = VB at *
        go_wp2_with fail
        refine (nearestMinute A n c VB hn (Bytes_below H.out HB28.out)).mono ?_
        rintro e V29 ⟨x3, y3, u3, v3, h3, c3, p3, q3, rfl, h30⟩
        have HB31 := Lib.hid (HB28.out.trans (h30.mono HB28.out.size))
        clear HB28
        clear h30
        have BX32 := Lib.hid ((plce.at_next 28 #[.int .i64 x3, .int .i64 y3, .int .i64 u3, .int .i64 v3, .int .i64 h3, .int .i64 c3] HB31.out).alloc (.cells #[.int .i64 p3, .int .i64 q3] 25))
        have BX33 := Lib.hid ((plce.at_next 28 #[.int .i64 x3, .int .i64 y3, .int .i64 u3, .int .i64 v3, .int .i64 h3, .int .i64 c3] HB31.out).next 25 #[.int .i64 p3, .int .i64 q3])
        rw [World.size_alloc] at BX33
        clear HB31
        have HBn := Lib.hid BX32.out.1
        have HB34 := HBn
        clear HBn
        go_upto_region 22 with fail
        generalize ((V29.alloc (.cells #[.int .i64 x3, .int .i64 y3, .int .i64 u3, .int .i64 v3, .int .i64 h3, .int .i64 c3] 28)).alloc (.cells #[.int .i64 p3, .int .i64 q3] 25)) = W3 at *
        have CI := Lib.hid (fun W => motc.nearestMinute x3 y3 u3 v3 h3 c3 p3 q3 W)
        have CS := Lib.hid (fun W => mots.nearestMinute x3 y3 u3 v3 h3 c3 p3 q3 W)
        have CP := Lib.hid (fun (n d : Int) W => mota.placeAt x3 y3 u3 v3 h3 c3 n d W)
        have FN := Lib.hid (fun (h : nmB x3 y3 u3 v3 h3 c3 p3 q3 = true) => nm_best h)
        have FM := Lib.hid (fun (h : nmB x3 y3 u3 v3 h3 c3 p3 q3 = true) => show moB x3 y3 u3 v3 h3 c3 = true ∧ pos.pB p3 q3 = true from by unfold nmB at h; rwa [Bool.and_eq_true] at h)
        generalize nmV x3 y3 u3 v3 h3 c3 p3 q3 = T3 at *
        generalize nmB x3 y3 u3 v3 h3 c3 p3 q3 = O3 at *
        have n1 := int_ne_self (T3 : Int)
        have n3 := bool_ne_self O3
        have km0_ : W3.cell? ⟨V29.heap.size, 0, none⟩ = some (.int .i64 x3) := BX32.out.cell 0
        have km1_ : W3.cell? ⟨V29.heap.size, 1, none⟩ = some (.int .i64 y3) := BX32.out.cell 1
        have km2_ : W3.cell? ⟨V29.heap.size, 2, none⟩ = some (.int .i64 u3) := BX32.out.cell 2
        have km3_ : W3.cell? ⟨V29.heap.size, 3, none⟩ = some (.int .i64 v3) := BX32.out.cell 3
        have km4_ : W3.cell? ⟨V29.heap.size, 4, none⟩ = some (.int .i64 h3) := BX32.out.cell 4
        have km5_ : W3.cell? ⟨V29.heap.size, 5, none⟩ = some (.int .i64 c3) := BX32.out.cell 5
        have kp0_ : W3.cell? ⟨V29.heap.size + 1, 0, none⟩ = some (.int .i64 p3) := BX33.out.cell 0
        have kp1_ : W3.cell? ⟨V29.heap.size + 1, 1, none⟩ = some (.int .i64 q3) := BX33.out.cell 1
        go_wp2_with fail
        clear km0_ km1_ km2_ km3_ km4_ km5_ kp0_ kp1_
        refine (CI.out W3).mono ?_
        rintro e V35 ⟨rfl, h36⟩
        have HB37 := Lib.hid (HB34.out.trans (h36.mono HB34.out.size))
        clear HB34
        have BX38 := Lib.hid (BX32.out.old h36)
        clear BX32
        have BX39 := Lib.hid (BX33.out.old h36)
        clear BX33
        clear h36
        have km0_ : V35.cell? ⟨V29.heap.size, 0, none⟩ = some (.int .i64 x3) := BX38.out.cell 0
        have km1_ : V35.cell? ⟨V29.heap.size, 1, none⟩ = some (.int .i64 y3) := BX38.out.cell 1
        have km2_ : V35.cell? ⟨V29.heap.size, 2, none⟩ = some (.int .i64 u3) := BX38.out.cell 2
        have km3_ : V35.cell? ⟨V29.heap.size, 3, none⟩ = some (.int .i64 v3) := BX38.out.cell 3
        have km4_ : V35.cell? ⟨V29.heap.size, 4, none⟩ = some (.int .i64 h3) := BX38.out.cell 4
        have km5_ : V35.cell? ⟨V29.heap.size, 5, none⟩ = some (.int .i64 c3) := BX38.out.cell 5
        have kp0_ : V35.cell? ⟨V29.heap.size + 1, 0, none⟩ = some (.int .i64 p3) := BX39.out.cell 0
        have kp1_ : V35.cell? ⟨V29.heap.size + 1, 1, none⟩ = some (.int .i64 q3) := BX39.out.cell 1
        go_wp2_with fail
        clear km0_ km1_ km2_ km3_ km4_ km5_ kp0_ kp1_
        refine (CS.out V35).mono ?_
        rintro e V40 ⟨rfl, h41⟩
        have HB42 := Lib.hid (HB37.out.trans (h41.mono HB37.out.size))
        clear HB37
        have BX43 := Lib.hid (BX38.out.old h41)
        clear BX38
        have BX44 := Lib.hid (BX39.out.old h41)
        clear BX39
        clear h41
        clear CI CS
        go_upto_if 186 with fail
        go_cut [30, 31, 32, 33, 34, 35, 36, 37, 38, 39, 40] from 187 to 265 (fun p30 p31 p32 p33 p34 p35 p36 p37 p38 p39 p40 wz => Below V40.heap.size V40 wz)
        case first =>
          cases O3
          · go_wp2_with fail
            go_meet
            exact Below.refl _ _
          · obtain ⟨hm3, hp3⟩ := FM.out (by trivial)
            obtain ⟨ht3, hbest⟩ := FN.out (by trivial)
            obtain ⟨hx, hy, hu, hv, -, -⟩ := mo_in hm3
            obtain ⟨hp, hq⟩ := pos.pB_yes hp3
            have HBEST := Lib.hid hbest
            have HM := Lib.hid (fun (k : Nat) (hk : k ≤ 60) => pa_minute hm3 hk)
            have HF := Lib.hid (fun (k : Nat) (hk : k ≤ 60) => And.intro (far hx hu hk) (far hy hv hk))
            have HP3 := Lib.hid (And.intro hp hq)
            have CPK := Lib.hid (fun (k : Nat) (hk : k ≤ 60) W => show Calls Try.prog 18 #[.agg #[.int .i64 x3, .int .i64 y3, .int .i64 u3, .int .i64 v3, .int .i64 h3, .int .i64 c3], .int .i64 (k : Int), .int .i64 1] W (fun e w' => e = .returned (.tuple #[.int .i64 (x3 + u3 * (k : Int)), .int .i64 (y3 + v3 * (k : Int)), .int .i64 1, .bool true]) ∧ Below W.heap.size W w') from by
              have := CP.out (k : Int) 1 W
              obtain ⟨e1, e2, e3, e4⟩ := HM.out k hk
              rwa [e1, e2, e3, e4] at this)
            clear CP HM FM FN hm3 hp3 hbest hx hy hu hv hp hq
            obtain ⟨⟨⟨a1, a2⟩, a3, a4⟩, ⟨b1, b2⟩, b3, b4⟩ := HF.out T3 ht3
            obtain ⟨⟨p1, p2⟩, q1, q2⟩ := HP3.out
            have HQt := Lib.hid (show sqd x3 y3 u3 v3 p3 q3 T3 = (x3 + u3 * (T3 : Int) - p3) * (x3 + u3 * (T3 : Int) - p3) + (y3 + v3 * (T3 : Int) - q3) * (y3 + v3 * (T3 : Int) - q3) from rfl)
            have s1 := square_in (z := x3 + u3 * (T3 : Int) - p3) (by omega)
            have s2 := square_in (z := y3 + v3 * (T3 : Int) - q3) (by omega)
            have HKt := Lib.hid (fun W => CPK.out T3 ht3 W)
            generalize hzxt : x3 + u3 * (T3 : Int) = Zxt at *
            generalize hzyt : y3 + v3 * (T3 : Int) = Zyt at *
            have e5 : IntKind.i64.wrap (Zxt - p3) = Zxt - p3 := IntWalk.i64_in _ (by omega)
            have e6 : IntKind.i64.wrap (Zyt - q3) = Zyt - q3 := IntWalk.i64_in _ (by omega)
            generalize haxt : Zxt - p3 = Axt at *
            generalize hayt : Zyt - q3 = Ayt at *
            generalize hsxt : Axt * Axt = Sxt at *
            generalize hsyt : Ayt * Ayt = Syt at *
            have e7 : IntKind.i64.wrap Sxt = Sxt := IntWalk.i64_in _ (by omega)
            have e8 : IntKind.i64.wrap Syt = Syt := IntWalk.i64_in _ (by omega)
            have e9 : IntKind.i64.wrap (Sxt + Syt) = Sxt + Syt := IntWalk.i64_in _ (by omega)
            clear a1 a2 a3 a4 b1 b2 b3 b4
            have km0_ : V40.cell? ⟨V29.heap.size, 0, none⟩ = some (.int .i64 x3) := BX43.out.cell 0
            have km1_ : V40.cell? ⟨V29.heap.size, 1, none⟩ = some (.int .i64 y3) := BX43.out.cell 1
            have km2_ : V40.cell? ⟨V29.heap.size, 2, none⟩ = some (.int .i64 u3) := BX43.out.cell 2
            have km3_ : V40.cell? ⟨V29.heap.size, 3, none⟩ = some (.int .i64 v3) := BX43.out.cell 3
            have km4_ : V40.cell? ⟨V29.heap.size, 4, none⟩ = some (.int .i64 h3) := BX43.out.cell 4
            have km5_ : V40.cell? ⟨V29.heap.size, 5, none⟩ = some (.int .i64 c3) := BX43.out.cell 5
            go_wp2_with fail
            clear km0_ km1_ km2_ km3_ km4_ km5_
            refine (HKt.out V40).mono ?_
            rintro e wp ⟨rfl, hp⟩
            clear HKt
            have HB45 := Lib.hid (HB42.out.trans (hp.mono HB42.out.size))
            have BX46 := Lib.hid (BX43.out.old hp)
            have BX47 := Lib.hid (BX44.out.old hp)
            have HWP := Lib.hid hp
            clear hp
            have kp0_ : wp.cell? ⟨V29.heap.size + 1, 0, none⟩ = some (.int .i64 p3) := BX47.out.cell 0
            have kp1_ : wp.cell? ⟨V29.heap.size + 1, 1, none⟩ = some (.int .i64 q3) := BX47.out.cell 1
            go_wp2_with fail
            clear kp0_ kp1_ e5 e6 e7 e8 e9
            generalize hL : Sxt + Syt = LEAST at *
            have HQL := Lib.hid (show sqd x3 y3 u3 v3 p3 q3 T3 = LEAST by rw [HQt.out])
            clear hL HQt hzxt hzyt haxt hayt hsxt hsyt s1 s2 p1 p2 q1 q2
            go_loopw [35] (fun i wr => ∃ k : Nat, k ≤ 61 ∧ i = .int .i64 k ∧ Below wp.heap.size wp wr) (fun i _ => 61 - (intOf i).toNat)
            case atStart => exact ⟨0, by omega, rfl, Below.refl _ _⟩
            case round =>
              obtain ⟨k, hk, rfl, hb⟩ := hrel
              by_cases hlt : k ≤ 60
              · have hlt2 : (k : Int) ≤ 60 := by omega
                have HBW := Lib.hid hb
                have HB48 := Lib.hid (HB45.out.trans (hb.mono HB45.out.size))
                have BX49 := Lib.hid (BX46.out.old hb)
                have BX50 := Lib.hid (BX47.out.old hb)
                clear hb
                obtain ⟨⟨⟨a1, a2⟩, a3, a4⟩, ⟨b1, b2⟩, b3, b4⟩ := HF.out k hlt
                obtain ⟨⟨p1, p2⟩, q1, q2⟩ := HP3.out
                have HQk := Lib.hid (show sqd x3 y3 u3 v3 p3 q3 k = (x3 + u3 * (k : Int) - p3) * (x3 + u3 * (k : Int) - p3) + (y3 + v3 * (k : Int) - q3) * (y3 + v3 * (k : Int) - q3) from rfl)
                have s1 := square_in (z := x3 + u3 * (k : Int) - p3) (by omega)
                have s2 := square_in (z := y3 + v3 * (k : Int) - q3) (by omega)
                have HKk := Lib.hid (fun W => CPK.out k hlt W)
                generalize hzxk : x3 + u3 * (k : Int) = Zxk at *
                generalize hzyk : y3 + v3 * (k : Int) = Zyk at *
                have e5 : IntKind.i64.wrap (Zxk - p3) = Zxk - p3 := IntWalk.i64_in _ (by omega)
                have e6 : IntKind.i64.wrap (Zyk - q3) = Zyk - q3 := IntWalk.i64_in _ (by omega)
                generalize haxk : Zxk - p3 = Axk at *
                generalize hayk : Zyk - q3 = Ayk at *
                generalize hsxk : Axk * Axk = Sxk at *
                generalize hsyk : Ayk * Ayk = Syk at *
                have e7 : IntKind.i64.wrap Sxk = Sxk := IntWalk.i64_in _ (by omega)
                have e8 : IntKind.i64.wrap Syk = Syk := IntWalk.i64_in _ (by omega)
                have e9 : IntKind.i64.wrap (Sxk + Syk) = Sxk + Syk := IntWalk.i64_in _ (by omega)
                clear a1 a2 a3 a4 b1 b2 b3 b4
                obtain ⟨hbl, htie⟩ := HBEST.out k hlt
                rw [HQL.out, HQk.out] at hbl htie
                generalize hD : Sxk + Syk = DK at *
                clear hzxk hzyk s1 s2 p1 p2 q1 q2 HQk
                have km0_ : wr.cell? ⟨V29.heap.size, 0, none⟩ = some (.int .i64 x3) := BX49.out.cell 0
                have km1_ : wr.cell? ⟨V29.heap.size, 1, none⟩ = some (.int .i64 y3) := BX49.out.cell 1
                have km2_ : wr.cell? ⟨V29.heap.size, 2, none⟩ = some (.int .i64 u3) := BX49.out.cell 2
                have km3_ : wr.cell? ⟨V29.heap.size, 3, none⟩ = some (.int .i64 v3) := BX49.out.cell 3
                have km4_ : wr.cell? ⟨V29.heap.size, 4, none⟩ = some (.int .i64 h3) := BX49.out.cell 4
                have km5_ : wr.cell? ⟨V29.heap.size, 5, none⟩ = some (.int .i64 c3) := BX49.out.cell 5
                go_wp2_with fail
                clear km0_ km1_ km2_ km3_ km4_ km5_
                refine (HKk.out wr).mono ?_
                rintro e wq ⟨rfl, hq⟩
                clear HKk
                have HB51 := Lib.hid (HB48.out.trans (hq.mono HB48.out.size))
                have BX52 := Lib.hid (BX49.out.old hq)
                have BX53 := Lib.hid (BX50.out.old hq)
                have HWQ := Lib.hid (HBW.out.trans (hq.mono HBW.out.size))
                clear hq
                have kp0_ : wq.cell? ⟨V29.heap.size + 1, 0, none⟩ = some (.int .i64 p3) := BX53.out.cell 0
                have kp1_ : wq.cell? ⟨V29.heap.size + 1, 1, none⟩ = some (.int .i64 q3) := BX53.out.cell 1
                have g1 : ¬ DK < LEAST := by omega
                by_cases hdl : DK = LEAST
                · have g2 : (DK == LEAST) = true := by rw [hdl]; simp
                  have g3 : ¬ (k : Int) < (T3 : Int) := by have := htie hdl; omega
                  clear htie hdl hbl
                  go_wp2_with fail
                  go_roundw
                  case rel => exact ⟨k + 1, by omega, by go_num, HWQ.out⟩
                  case measure => simp [intOf]; omega
                · have g2 : (DK == LEAST) = false := by simpa using hdl
                  clear htie hdl hbl
                  go_wp2_with fail
                  go_roundw
                  case rel => exact ⟨k + 1, by omega, by go_num, HWQ.out⟩
                  case measure => simp [intOf]; omega
              · obtain rfl : k = 61 := by omega
                have HE := Lib.hid (HWP.out.trans (hb.mono HWP.out.size))
                go_wp2_with fail
                go_meet
                exact HE.out
        case rest =>
          have hbc := hcut
          clear BX43
          clear BX44
          have HB54 := Lib.hid (HB42.out.trans (hbc.mono HB42.out.size))
          clear HB42
          clear hbc
          clear CP FN FM n1 n3
          generalize wc = VC at *
          go_wp2_with fail
          refine (placeAt A n c VC hn (Bytes_below H.out HB54.out)).mono ?_
          rintro e V55 ⟨x4, y4, u4, v4, h4, c4, n4, d4, rfl, h56⟩
          have HB57 := Lib.hid (HB54.out.trans (h56.mono HB54.out.size))
          clear HB54
          clear h56
          have BX58 := Lib.hid (plce.at_next 28 #[.int .i64 x4, .int .i64 y4, .int .i64 u4, .int .i64 v4, .int .i64 h4, .int .i64 c4] HB57.out)
          clear HB57
          have HBn := Lib.hid BX58.out.1
          have HB59 := HBn
          clear HBn
          go_upto_region 37 with fail
          generalize (V55.alloc (.cells #[.int .i64 x4, .int .i64 y4, .int .i64 u4, .int .i64 v4, .int .i64 h4, .int .i64 c4] 28)) = W4 at *
          have CI := Lib.hid (fun W => mota.placeAt x4 y4 u4 v4 h4 c4 n4 d4 W)
          have CS := Lib.hid (fun W => mots.placeAt x4 y4 u4 v4 h4 c4 n4 d4 W)
          have VI := Lib.hid (fun W d0 os => Calls.regrown_of (mota.isValidMotion x4 y4 u4 v4 h4 c4 (Sort.grow (redrawn W d0) os)))
          have VS := Lib.hid (fun W d0 os => Calls.regrown_of (mots.isValidMotion x4 y4 u4 v4 h4 c4 (Sort.grow (redrawn W d0) os)))
          generalize paV x4 y4 u4 v4 h4 c4 n4 d4 x4 u4 = px at *
          generalize paV x4 y4 u4 v4 h4 c4 n4 d4 y4 v4 = py at *
          generalize paD x4 y4 u4 v4 h4 c4 n4 d4 = pd at *
          generalize paB x4 y4 u4 v4 h4 c4 n4 d4 = pb at *
          generalize moB x4 y4 u4 v4 h4 c4 = mb at *
          have i1 := int_eq_self px
          have i2 := int_eq_self py
          have i3 := int_eq_self pd
          have i4 := bool_eq_self pb
          have i5 := bool_eq_self mb
          have km0_ : W4.cell? ⟨V55.heap.size, 0, none⟩ = some (.int .i64 x4) := BX58.out.cell 0
          have km1_ : W4.cell? ⟨V55.heap.size, 1, none⟩ = some (.int .i64 y4) := BX58.out.cell 1
          have km2_ : W4.cell? ⟨V55.heap.size, 2, none⟩ = some (.int .i64 u4) := BX58.out.cell 2
          have km3_ : W4.cell? ⟨V55.heap.size, 3, none⟩ = some (.int .i64 v4) := BX58.out.cell 3
          have km4_ : W4.cell? ⟨V55.heap.size, 4, none⟩ = some (.int .i64 h4) := BX58.out.cell 4
          have km5_ : W4.cell? ⟨V55.heap.size, 5, none⟩ = some (.int .i64 c4) := BX58.out.cell 5
          go_wp2_with fail
          clear km0_ km1_ km2_ km3_ km4_ km5_
          refine (CI.out W4).mono ?_
          rintro e V60 ⟨rfl, h61⟩
          have HB62 := Lib.hid (HB59.out.trans (h61.mono HB59.out.size))
          clear HB59
          have BX63 := Lib.hid (BX58.out.old h61)
          clear BX58
          clear h61
          have km0_ : V60.cell? ⟨V55.heap.size, 0, none⟩ = some (.int .i64 x4) := BX63.out.cell 0
          have km1_ : V60.cell? ⟨V55.heap.size, 1, none⟩ = some (.int .i64 y4) := BX63.out.cell 1
          have km2_ : V60.cell? ⟨V55.heap.size, 2, none⟩ = some (.int .i64 u4) := BX63.out.cell 2
          have km3_ : V60.cell? ⟨V55.heap.size, 3, none⟩ = some (.int .i64 v4) := BX63.out.cell 3
          have km4_ : V60.cell? ⟨V55.heap.size, 4, none⟩ = some (.int .i64 h4) := BX63.out.cell 4
          have km5_ : V60.cell? ⟨V55.heap.size, 5, none⟩ = some (.int .i64 c4) := BX63.out.cell 5
          go_wp2_with fail
          clear km0_ km1_ km2_ km3_ km4_ km5_
          refine (CS.out V60).mono ?_
          rintro e V64 ⟨rfl, h65⟩
          have HB66 := Lib.hid (HB62.out.trans (h65.mono HB62.out.size))
          clear HB62
          have BX67 := Lib.hid (BX63.out.old h65)
          clear BX63
          clear h65
          clear CI CS
          have km0_ : V64.cell? ⟨V55.heap.size, 0, none⟩ = some (.int .i64 x4) := BX67.out.cell 0
          have km1_ : V64.cell? ⟨V55.heap.size, 1, none⟩ = some (.int .i64 y4) := BX67.out.cell 1
          have km2_ : V64.cell? ⟨V55.heap.size, 2, none⟩ = some (.int .i64 u4) := BX67.out.cell 2
          have km3_ : V64.cell? ⟨V55.heap.size, 3, none⟩ = some (.int .i64 v4) := BX67.out.cell 3
          have km4_ : V64.cell? ⟨V55.heap.size, 4, none⟩ = some (.int .i64 h4) := BX67.out.cell 4
          have km5_ : V64.cell? ⟨V55.heap.size, 5, none⟩ = some (.int .i64 c4) := BX67.out.cell 5
          go_wp2_with fail
          have km0_' := fun d0 os => cell_regrown km0_ d0 os
          have km1_' := fun d0 os => cell_regrown km1_ d0 os
          have km2_' := fun d0 os => cell_regrown km2_ d0 os
          have km3_' := fun d0 os => cell_regrown km3_ d0 os
          have km4_' := fun d0 os => cell_regrown km4_ d0 os
          have km5_' := fun d0 os => cell_regrown km5_ d0 os
          clear km0_ km1_ km2_ km3_ km4_ km5_
          refine wp_region_quiet_below (by kernel_rfl) (by kernel_rfl) ?_
          repeat (
            with_reducible refine wpQuiet_step (fun K hK => ?_)
            go_simp
            first
              | (refine hK _ ?_; clear hK K)
              | (apply Exists.intro
                 refine ⟨fun _ => ?_, hK _ ?_⟩
                 (first
                   | (go_at_call 28; with_reducible exact VI.out _ _ _)
                   | (go_at_call 29; with_reducible exact VS.out _ _ _))
                 clear hK K))
          with_reducible refine wpQuiet_nil ?_
          intro _ hw'
          obtain ⟨⟨dq, osq⟩, hw''⟩ := hw'
          subst hw''
          have hbl := (below_regrown V64 dq osq)
          clear km0_' km1_' km2_' km3_' km4_' km5_'
          generalize Sort.grow (redrawn V64 dq) osq = V9 at *
          have HF := Lib.hid (HB66.out.trans (hbl.mono HB66.out.size))
          clear hbl
          go_wp2_with fail
          go_ret
          exact ⟨rfl, HF.out⟩

theorem own : ownKnob Try.prog.godebug = none := by kernel_rfl
theorem laidOut : laidOutB Try.prog = true := by kernel_rfl

set_option maxRecDepth 100000 in
theorem lifted (os : Os) (started : os.Started) (H : Type) (enc : TypeId × Value → H) :
    ReturnsInHanded {} Try.checked os 3 .any (Rows.fnPredictionsSpec.pre6 enc Try.prog Try.f3 Rows.fnPredictionsRow.domain false) (Rows.fnPredictionsSpec.post enc Try.prog Try.f3 false true false false) := by
  refine returnsInHanded_of_change (C := Try.checked) own started (by kernel_rfl) Try.func3
    (ChangeSpec.witness6 (enc := enc) (C := Try.checked) false ⟨#[], #[.slice none 0 0], []⟩ 8 (by kernel_rfl) (by kernel_rfl) (by kernel_rfl) (by kernel_rfl)) ?_
  intro W base args ds gs before hval0 hW hcnd _
  have hval : ∀ (j : Nat) t v, Try.f3.params[j]? = some t → args[j]? = some v → Value.okWide Try.prog W .any base t v := hval0
  have hW' := hW
  obtain ⟨p, q, hA0, hV, rfl, hfz, hnd⟩ := hW
  have hA : DataW.TrodAll enc Try.prog W 0 (fun _ => true) true Try.f3.params.toList args.toList ds p := hA0
  rw [Try.params3] at hA hval
  obtain ⟨v0, vs0, d0, ds0, p0, q0, hargs, rfl, rfl, h0, r0⟩ := trodAll_cons hA
  obtain ⟨rfl, rfl, rfl⟩ := trodAll_nil r0
  obtain rfl : args = #[v0] := by cases args; simp_all
  obtain ⟨rfl, rfl⟩ := trodVars_none hV
  obtain ⟨a0, len0, cap0, rfl⟩ := okWide_slice Try.underlying22 (hval 0 22 v0 rfl rfl)
  have k0 := h0
  have lt0 : ∀ x ∈ p0, x.block < W.heap.size := by obtain ⟨m, hm⟩ := k0; exact DataW.trod_lt m _ _ _ hm
  obtain ⟨z0, w0⟩ : ∃ zs, IsRow .u8 W a0 len0 cap0 zs := by
    obtain ⟨fuel, hf⟩ := h0
    rcases open_ints Try.underlying22 Try.underlying5 (by kernel_rfl) hf with ⟨hcs, _⟩ | ⟨x, l, c, zs, hcs, _, hl, hm, hz, _, hcell, hwz⟩
    · simp [Value.cells] at hcs
      obtain ⟨rfl, rfl, rfl⟩ := hcs
      exact ⟨[], .inl ⟨rfl, rfl, rfl, rfl⟩⟩
    · simp [Value.cells] at hcs
      obtain ⟨rfl, rfl, rfl⟩ := hcs
      exact ⟨zs, .inr ⟨_, rfl, hl, hm, by simpa using hz, hcell, hwz⟩⟩
  clear hA0 hval0
  refine (walk a0 len0 cap0 z0 W w0).mono fun e W' ⟨he, bel⟩ => ?_
  subst he
  exact ⟨_, rfl, _, _, _, [], _, [], hW', trodAll_mk1 (shut_bool Try.underlying4 _), (trodAll_cons_mk (Below.trod laidOut (by kernel_rfl) (of_decide_eq_true (by kernel_rfl)) k0 bel lt0) trodAll_mk0), rfl, bel.frame _, fun h => by cases h⟩

theorem over : Rows.fnPredictionsRow.holds Try.pinned (OpenSpec.ofChange Rows.fnPredictionsSpec) :=
  OpenClaim.holds_of_wide 3 Try.f3 rfl rfl rfl rfl rfl rfl rfl ⟨rfl, rfl, rfl, rfl, rfl⟩ rfl rfl rfl rfl rfl (by kernel_rfl) Try.func3 (by kernel_rfl)
    (of_decide_eq_true (by kernel_rfl)) (by unfold Func.isWrapper; first | (rw [if_pos (by decide +kernel)]; kernel_rfl) | (rw [if_neg (by decide +kernel)]; exact ⟨rfl, rfl⟩))
    (fun os started H enc _ => lifted os started H enc)

theorem proved : Rows.FnPredictionsSaid :=
  over
#print axioms proved
end Go.Proofs.Ytinkkdgjpcnklaa.fnPredictions
