/- For every two reports and every int the law FnExactDecodeMoved returns true: impl.DecodeMoved and spec.DecodeMoved return the same places in the same order, or both an empty slice and false; the results share no memory. No condition. -/
import Derived.Test.YtkmmogdiekillaaRows
import Derived.Test.YtkmmogdiekillaaPosQ
import Derived.Test.YtkmmogdiekillaaPosY
import Derived.Test.YtkmmogdiekillaaPosE
import Derived.WalkKit
import Derived.ProofKit
import Derived.OpenShut
import Derived.ShutString
import Derived.ChangeOld
import Derived.Below
import Derived.Lib.SmallJoins
import Derived.Lib.QuietBelow
import Derived.Deep.RegionHeld3
import Derived.Deep.CutRange
namespace Go.Proofs.Ytkmmogdiekillaa.fnExactDecodeMoved
open Go.ChangeShapes Go.WideShapes Go.ChangeAt Go.RowKit Go.Joins Go.Proofs.Ytkmmogdiekillaa.ats Go.Proofs.Ytkmmogdiekillaa.ints Go.Proofs.Ytkmmogdiekillaa.lst
open Go.ChangeMaps (open_string shut_string)
set_option linter.unusedVariables false

theorem bool_ne_self (b : Bool) : (b != b) = false := by simp
theorem int_ne_self (x : Int) : (x != x) = false := by simp

set_option maxRecDepth 100000 in
set_option maxHeartbeats 8000000 in
theorem walk (a00 : Bool) (a01 : Int) (a02 : Int) (a10 : Bool) (a11 : Int) (a12 : Int) (a2 : Int) (w01 : (Lit.int .i64 a01).wf = true) (w02 : (Lit.int .i64 a02).wf = true) (w11 : (Lit.int .i64 a11).wf = true) (w12 : (Lit.int .i64 a12).wf = true) (w2 : (Lit.int .i64 a2).wf = true) (w : World) :
    Calls Try.prog 10 #[.agg #[.bool a00, .int .i64 a01, .int .i64 a02], .agg #[.bool a10, .int .i64 a11, .int .i64 a12], .int .i64 a2] w fun e w' => e = .returned (.bool true) ∧ Below w.heap.size w w' := by
  have hs := Lib.hid (fun w => posy.decodeMoved a00 a01 a02 a10 a11 a12 a2 w)
  have hi := Lib.hid (fun w => posq.decodeMoved a00 a01 a02 a10 a11 a12 a2 w)
  have ne := bool_ne_self (pos.dmB a00 a01 a02 a10 a11 a12 a2)
  have hN : pos.dmN a00 a01 a02 a10 a11 a12 a2 ≤ 10000 := posq.dm_le a00 a01 a02 a10 a11 a12 a2
  have hL : (pos.dmV a00 a01 a02 a10 a11 a12 a2).length = pos.dmN a00 a01 a02 a10 a11 a12 a2 * 2 := pos.dm_length a00 a01 a02 a10 a11 a12 a2
  clear w01 w02 w11 w12 w2
  generalize pos.dmV a00 a01 a02 a10 a11 a12 a2 = Z at *
  generalize pos.dmN a00 a01 a02 a10 a11 a12 a2 = N at *
  generalize pos.dmB a00 a01 a02 a10 a11 a12 a2 = O at *
  have S0_1 := Lib.hid ((newS 58 #[.bool a00, .int .i64 a01, .int .i64 a02] w).alloc (.cells #[.bool a10, .int .i64 a11, .int .i64 a12] 58))
  have S1_1 := Lib.hid ((newS 58 #[.bool a00, .int .i64 a01, .int .i64 a02] w).next 58 #[.bool a10, .int .i64 a11, .int .i64 a12])
  rw [World.size_alloc] at S1_1
  go_enter Try.func10, Try.ntmps10
  go_upto_region 1 with fail
  generalize ((w.alloc (.cells #[.bool a00, .int .i64 a01, .int .i64 a02] 58)).alloc (.cells #[.bool a10, .int .i64 a11, .int .i64 a12] 58)) = V1 at *
  have CS1 := Lib.hid (show ∀ WZ : World, Below V1.heap.size V1 WZ → WZ.cell? ⟨w.heap.size, 0, none⟩ = some (.bool a00) ∧ WZ.cell? ⟨w.heap.size, 1, none⟩ = some (.int .i64 a01) ∧ WZ.cell? ⟨w.heap.size, 2, none⟩ = some (.int .i64 a02) ∧ WZ.cell? ⟨w.heap.size + 1, 0, none⟩ = some (.bool a10) ∧ WZ.cell? ⟨w.heap.size + 1, 1, none⟩ = some (.int .i64 a11) ∧ WZ.cell? ⟨w.heap.size + 1, 2, none⟩ = some (.int .i64 a12) from fun WZ hz => And.intro (posx.at_cell (S0_1.out.old hz) 0 (.bool a00) rfl) (And.intro (posx.at_cell (S0_1.out.old hz) 1 (.int .i64 a01) rfl) (And.intro (posx.at_cell (S0_1.out.old hz) 2 (.int .i64 a02) rfl) (And.intro (posx.at_cell (S1_1.out.old hz) 0 (.bool a10) rfl) (And.intro (posx.at_cell (S1_1.out.old hz) 1 (.int .i64 a11) rfl) (posx.at_cell (S1_1.out.old hz) 2 (.int .i64 a12) rfl))))))
  go_cut [7, 8] from 15 to 23 (fun p q wz => ∃ Ax cx, p = .slice Ax N cx ∧ q = .bool O ∧ wz.ownsRow V1.heap.size 25 2 (.slice Ax N cx) N (cellsI Z) ∧ Below V1.heap.size V1 wz)
  case first =>
    go_region_held3 (fun w' => w'.cell? ⟨w.heap.size, 0, none⟩ = some (.bool a00) ∧ w'.cell? ⟨w.heap.size, 1, none⟩ = some (.int .i64 a01) ∧ w'.cell? ⟨w.heap.size, 2, none⟩ = some (.int .i64 a02) ∧ w'.cell? ⟨w.heap.size + 1, 0, none⟩ = some (.bool a10) ∧ w'.cell? ⟨w.heap.size + 1, 1, none⟩ = some (.int .i64 a11) ∧ w'.cell? ⟨w.heap.size + 1, 2, none⟩ = some (.int .i64 a12)) (first
      | exact CS1.out _ (Below.refl V1.heap.size V1).drew
      | exact CS1.out _ (by assumption)
      | go_keep) (first
      | (go_at_call 43; (with_reducible refine (posx.toReport a00 a01 a02 _).mono ?_); rintro e w' ⟨rfl, hb⟩
         have hbl := posx.bl_next (V := V1) (by first | exact (Below.refl V1.heap.size V1).drew | assumption) hb
         clear hb)
      | (go_at_call 43; (with_reducible refine (posx.toReport a10 a11 a12 _).mono ?_); rintro e w' ⟨rfl, hb⟩
         have hbl := posx.bl_next (V := V1) (by first | exact (Below.refl V1.heap.size V1).drew | assumption) hb
         clear hb)
      | (go_at_call 23; (with_reducible refine (hs.out _).mono ?_); rintro e w' ⟨v, rfl, ho, hb⟩
         obtain ⟨Ax, cx, rfl⟩ := own_sliceZ ho
         have ho2 := own_.own_base ho (Below.size (by assumption : Below V1.heap.size V1 _))
         have hbl2 := posx.bl_next (V := V1) (by assumption) hb
         clear ho hb))
    all_goals (go_wp2_with fail; go_meet; exact ⟨_, _, rfl, rfl, by assumption, by assumption⟩)
  case rest =>
    obtain ⟨A2, c2, rfl, rfl, ho2, hb2⟩ := hcut
    have S0_2 := Lib.hid (S0_1.out.old hb2)
    have S1_2 := Lib.hid (S1_1.out.old hb2)
    have rd2 := Lib.hid (RdZ.of_own ho2 hL)
    clear ho2 hb2 CS1 S0_1 S1_1
    generalize wc = V2 at *
    go_upto_region 2 with fail
    have CS2 := Lib.hid (show ∀ WZ : World, Below V2.heap.size V2 WZ → WZ.cell? ⟨w.heap.size, 0, none⟩ = some (.bool a00) ∧ WZ.cell? ⟨w.heap.size, 1, none⟩ = some (.int .i64 a01) ∧ WZ.cell? ⟨w.heap.size, 2, none⟩ = some (.int .i64 a02) ∧ WZ.cell? ⟨w.heap.size + 1, 0, none⟩ = some (.bool a10) ∧ WZ.cell? ⟨w.heap.size + 1, 1, none⟩ = some (.int .i64 a11) ∧ WZ.cell? ⟨w.heap.size + 1, 2, none⟩ = some (.int .i64 a12) from fun WZ hz => And.intro (posx.at_cell (S0_2.out.old hz) 0 (.bool a00) rfl) (And.intro (posx.at_cell (S0_2.out.old hz) 1 (.int .i64 a01) rfl) (And.intro (posx.at_cell (S0_2.out.old hz) 2 (.int .i64 a02) rfl) (And.intro (posx.at_cell (S1_2.out.old hz) 0 (.bool a10) rfl) (And.intro (posx.at_cell (S1_2.out.old hz) 1 (.int .i64 a11) rfl) (posx.at_cell (S1_2.out.old hz) 2 (.int .i64 a12) rfl))))))
    go_cut [9, 10] from 24 to 32 (fun p q wz => ∃ Ax cx, p = .slice Ax N cx ∧ q = .bool O ∧ wz.ownsRow V2.heap.size 25 2 (.slice Ax N cx) N (cellsI Z) ∧ Below V2.heap.size V2 wz)
    case first =>
      go_region_held3 (fun w' => w'.cell? ⟨w.heap.size, 0, none⟩ = some (.bool a00) ∧ w'.cell? ⟨w.heap.size, 1, none⟩ = some (.int .i64 a01) ∧ w'.cell? ⟨w.heap.size, 2, none⟩ = some (.int .i64 a02) ∧ w'.cell? ⟨w.heap.size + 1, 0, none⟩ = some (.bool a10) ∧ w'.cell? ⟨w.heap.size + 1, 1, none⟩ = some (.int .i64 a11) ∧ w'.cell? ⟨w.heap.size + 1, 2, none⟩ = some (.int .i64 a12)) (first
        | exact CS2.out _ (Below.refl V2.heap.size V2).drew
        | exact CS2.out _ (by assumption)
        | go_keep) (first
        | (go_at_call 43; (with_reducible refine (posx.toReport a00 a01 a02 _).mono ?_); rintro e w' ⟨rfl, hb⟩
           have hbl := posx.bl_next (V := V2) (by first | exact (Below.refl V2.heap.size V2).drew | assumption) hb
           clear hb)
        | (go_at_call 43; (with_reducible refine (posx.toReport a10 a11 a12 _).mono ?_); rintro e w' ⟨rfl, hb⟩
           have hbl := posx.bl_next (V := V2) (by first | exact (Below.refl V2.heap.size V2).drew | assumption) hb
           clear hb)
        | (go_at_call 21; (with_reducible refine (hi.out _).mono ?_); rintro e w' ⟨v, rfl, ho, hb⟩
           obtain ⟨Ax, cx, rfl⟩ := own_sliceZ ho
           have ho2 := own_.own_base ho (Below.size (by assumption : Below V2.heap.size V2 _))
           have hbl2 := posx.bl_next (V := V2) (by assumption) hb
           clear ho hb))
      all_goals (go_wp2_with fail; go_meet; exact ⟨_, _, rfl, rfl, by assumption, by assumption⟩)
    case rest =>
      obtain ⟨A3, c3, rfl, rfl, ho3, hb3⟩ := hcut
      have gl := own_row_lt ho3
      have rd3 := RdZ.of_own ho3 hL
      have E3 := Lib.hid (pose.eqP Z A3 A2 N c3 c2 wc (by omega) rd3 (rd2.out.next hb3))
      have OW3 := Lib.hid ho3
      have HB3 := Lib.hid hb3
      clear ho3 hb3 rd3 gl CS2
      generalize wc = V3 at *
      go_wp2_with fail
      refine E3.out.mono ?_
      rintro e V4 ⟨rfl, hb4⟩
      have OW4 := Lib.hid (own_.own_below OW3.out hb4)
      have HB4 := Lib.hid (HB3.out.trans (hb4.mono HB3.out.size))
      clear OW3 HB3 E3 hb4
      go_wp2_with fail
      refine (pose.markP V2.heap.size A3 1 N c3 _ V4 (by omega) OW4.out).mono ?_
      rintro e V5 ⟨rfl, hb5, hg5, ho5⟩
      have HB5 := Lib.hid (HB4.out.trans hb5)
      have M5 := Lib.hid (pose.marks_rd ho5)
      have S0_5 := Lib.hid (S0_2.out.old HB5.out)
      have S1_5 := Lib.hid (S1_2.out.old HB5.out)
      have rd5 := Lib.hid (rd2.out.below HB5.out (Nat.le_refl _))
      have rd5 := Lib.hid (show RdZ 2 V5 V5.heap.size A2 N Z from ⟨rd5.out.1, fun h0 => by
        obtain ⟨b, o, e, hlt, hc⟩ := rd5.out.2 h0
        exact ⟨b, o, e, Nat.lt_of_lt_of_le hlt HB5.out.size, hc⟩⟩)
      have K5 : decide (((1 + N * 2 : Nat) : Int) < 0) = false := decide_eq_false (by omega)
      have K6 : (((1 + N * 2 : Nat) : Int) != ((1 + N * 2 : Nat) : Int)) = false := int_ne_self _
      have H5 := Lib.hid (pose.heldP A3 1 N c3 V5 (by omega) M5.out)
      have HH := Lib.hid (fun w h => pose.heldP A3 1 N c3 w (by omega) h)
      clear hb5 hg5 ho5 OW4 HB4 HB5 rd2 S0_2 S1_2
      generalize ((1 + N * 2 : Nat) : Int) = K at *
      go_wp2_with fail
      refine H5.out.mono ?_
      rintro e w' ⟨rfl, rfl⟩
      go_upto_region 13 with fail
      have CS5 := Lib.hid (show ∀ WZ : World, Below V5.heap.size V5 WZ → WZ.cell? ⟨w.heap.size, 0, none⟩ = some (.bool a00) ∧ WZ.cell? ⟨w.heap.size, 1, none⟩ = some (.int .i64 a01) ∧ WZ.cell? ⟨w.heap.size, 2, none⟩ = some (.int .i64 a02) ∧ WZ.cell? ⟨w.heap.size + 1, 0, none⟩ = some (.bool a10) ∧ WZ.cell? ⟨w.heap.size + 1, 1, none⟩ = some (.int .i64 a11) ∧ WZ.cell? ⟨w.heap.size + 1, 2, none⟩ = some (.int .i64 a12) from fun WZ hz => And.intro (posx.at_cell (S0_5.out.old hz) 0 (.bool a00) rfl) (And.intro (posx.at_cell (S0_5.out.old hz) 1 (.int .i64 a01) rfl) (And.intro (posx.at_cell (S0_5.out.old hz) 2 (.int .i64 a02) rfl) (And.intro (posx.at_cell (S1_5.out.old hz) 0 (.bool a10) rfl) (And.intro (posx.at_cell (S1_5.out.old hz) 1 (.int .i64 a11) rfl) (posx.at_cell (S1_5.out.old hz) 2 (.int .i64 a12) rfl))))))
      go_cut [13, 14] from 53 to 61 (fun p q wz => ∃ Ax cx, p = .slice Ax N cx ∧ q = .bool O ∧ wz.ownsRow V5.heap.size 25 2 (.slice Ax N cx) N (cellsI Z) ∧ Below V5.heap.size V5 wz)
      case first =>
        go_region_held3 (fun w' => w'.cell? ⟨w.heap.size, 0, none⟩ = some (.bool a00) ∧ w'.cell? ⟨w.heap.size, 1, none⟩ = some (.int .i64 a01) ∧ w'.cell? ⟨w.heap.size, 2, none⟩ = some (.int .i64 a02) ∧ w'.cell? ⟨w.heap.size + 1, 0, none⟩ = some (.bool a10) ∧ w'.cell? ⟨w.heap.size + 1, 1, none⟩ = some (.int .i64 a11) ∧ w'.cell? ⟨w.heap.size + 1, 2, none⟩ = some (.int .i64 a12)) (first
          | exact CS5.out _ (Below.refl V5.heap.size V5).drew
          | exact CS5.out _ (by assumption)
          | go_keep) (first
          | (go_at_call 43; (with_reducible refine (posx.toReport a00 a01 a02 _).mono ?_); rintro e w' ⟨rfl, hb⟩
             have hbl := posx.bl_next (V := V5) (by first | exact (Below.refl V5.heap.size V5).drew | assumption) hb
             clear hb)
          | (go_at_call 43; (with_reducible refine (posx.toReport a10 a11 a12 _).mono ?_); rintro e w' ⟨rfl, hb⟩
             have hbl := posx.bl_next (V := V5) (by first | exact (Below.refl V5.heap.size V5).drew | assumption) hb
             clear hb)
          | (go_at_call 21; (with_reducible refine (hi.out _).mono ?_); rintro e w' ⟨v, rfl, ho, hb⟩
             obtain ⟨Ax, cx, rfl⟩ := own_sliceZ ho
             have ho2 := own_.own_base ho (Below.size (by assumption : Below V5.heap.size V5 _))
             have hbl2 := posx.bl_next (V := V5) (by assumption) hb
             clear ho hb))
        all_goals (go_wp2_with fail; go_meet; exact ⟨_, _, rfl, rfl, by assumption, by assumption⟩)
      case rest =>
        obtain ⟨A6, c6, rfl, rfl, ho6, hb6⟩ := hcut
        have rd6 := RdZ.of_own ho6 hL
        have E6 := Lib.hid (pose.eqP Z A6 A2 N c6 c2 wc (by omega) rd6 (rd5.out.next hb6))
        have M6 := Lib.hid (M5.out.next hb6)
        have S6 := Lib.hid (S0_5.out.old hb6)
        clear ho6 hb6 rd6 CS5 M5 H5
        generalize wc = V6 at *
        go_wp2_with fail
        refine E6.out.mono ?_
        rintro e V7 ⟨rfl, hb7⟩
        have H7 := Lib.hid (HH.out V7 (M6.out.next hb7))
        have S7 := Lib.hid (S6.out.old hb7)
        clear hb7 E6 M6 S6
        go_wp2_with fail
        refine H7.out.mono ?_
        rintro e w' ⟨rfl, rfl⟩
        go_wp2_with fail
        go_ret
        exact ⟨rfl, S7.out.1⟩


theorem own : ownKnob Try.prog.godebug = none := by kernel_rfl
theorem laidOut : laidOutB Try.prog = true := by kernel_rfl

set_option maxRecDepth 100000 in
theorem lifted (os : Os) (started : os.Started) (H : Type) (enc : TypeId × Value → H) :
    ReturnsInHanded {} Try.checked os 10 .any (Rows.fnExactDecodeMovedSpec.pre6 enc Try.prog Try.f10 Rows.fnExactDecodeMovedRow.domain false) (Rows.fnExactDecodeMovedSpec.post enc Try.prog Try.f10 false true false false) := by
  refine returnsInHanded_of_change (C := Try.checked) own started (by kernel_rfl) Try.func10
    (ChangeSpec.witness6 (enc := enc) (C := Try.checked) false ⟨#[], #[.agg #[.bool false, .int .i64 0, .int .i64 0], .agg #[.bool false, .int .i64 0, .int .i64 0], .int .i64 0], []⟩ 8 (by kernel_rfl) (by kernel_rfl) (by kernel_rfl) (by kernel_rfl)) ?_
  intro W base args ds gs before hval0 hW hcnd _
  have hval : ∀ (j : Nat) t v, Try.f10.params[j]? = some t → args[j]? = some v → Value.okWide Try.prog W .any base t v := hval0
  have hW' := hW
  obtain ⟨p, q, hA0, hV, rfl, hfz, hnd⟩ := hW
  have hA : DataW.TrodAll enc Try.prog W 0 (fun _ => true) true Try.f10.params.toList args.toList ds p := hA0
  rw [Try.params10] at hA hval
  obtain ⟨v0, vs0, d0, ds0, p0, q0, hargs, rfl, rfl, h0, r0⟩ := trodAll_cons hA
  obtain ⟨v1, vs1, d1, ds1, p1, q1, rfl, rfl, rfl, h1, r1⟩ := trodAll_cons r0
  obtain ⟨v2, vs2, d2, ds2, p2, q2, rfl, rfl, rfl, h2, r2⟩ := trodAll_cons r1
  obtain ⟨rfl, rfl, rfl⟩ := trodAll_nil r2
  obtain rfl : args = #[v0, v1, v2] := by cases args; simp_all
  obtain ⟨rfl, rfl⟩ := trodVars_none hV
  have k0 := h0
  have lt0 : ∀ x ∈ p0, x.block < W.heap.size := by obtain ⟨m, hm⟩ := k0; exact DataW.trod_lt m _ _ _ hm
  obtain ⟨f00, f01, f02, y00, y01, y02, m0, rfl, rfl, rfl, t00, t01, t02⟩ := open_agg3 Try.underlying58 (by kernel_rfl) (by kernel_rfl) (hval 0 58 v0 rfl rfl) h0
  obtain ⟨a00, e00, -⟩ := DataW.trod_bool Try.underlying4 t00
  obtain rfl : f00 = .bool a00 := by simpa using e00
  obtain ⟨a01, e01, -, w01⟩ := DataW.trod_int Try.underlying3 t01
  obtain rfl : f01 = .int .i64 a01 := by simpa using e01
  obtain ⟨a02, e02, -, w02⟩ := DataW.trod_int Try.underlying3 t02
  obtain rfl : f02 = .int .i64 a02 := by simpa using e02
  have k1 := h1
  have lt1 : ∀ x ∈ p1, x.block < W.heap.size := by obtain ⟨m, hm⟩ := k1; exact DataW.trod_lt m _ _ _ hm
  obtain ⟨f10, f11, f12, y10, y11, y12, m1, rfl, rfl, rfl, t10, t11, t12⟩ := open_agg3 Try.underlying58 (by kernel_rfl) (by kernel_rfl) (hval 1 58 v1 rfl rfl) h1
  obtain ⟨a10, e10, -⟩ := DataW.trod_bool Try.underlying4 t10
  obtain rfl : f10 = .bool a10 := by simpa using e10
  obtain ⟨a11, e11, -, w11⟩ := DataW.trod_int Try.underlying3 t11
  obtain rfl : f11 = .int .i64 a11 := by simpa using e11
  obtain ⟨a12, e12, -, w12⟩ := DataW.trod_int Try.underlying3 t12
  obtain rfl : f12 = .int .i64 a12 := by simpa using e12
  obtain ⟨a2, rfl, rfl, rfl, w2⟩ := open_int Try.underlying3 (hval 2 3 v2 rfl rfl) h2
  clear hA0 hval0
  refine (walk a00 a01 a02 a10 a11 a12 a2 w01 w02 w11 w12 w2 W).mono fun e W' ⟨he, bel⟩ => ?_
  subst he
  exact ⟨_, rfl, _, _, _, [], _, [], hW', trodAll_mk1 (shut_bool Try.underlying4 _), (trodAll_cons_mk (Below.trod laidOut (by kernel_rfl) (of_decide_eq_true (by kernel_rfl)) k0 bel lt0) (trodAll_cons_mk (Below.trod laidOut (by kernel_rfl) (of_decide_eq_true (by kernel_rfl)) k1 bel lt1) (trodAll_cons_mk (shut_int Try.underlying3 w2) trodAll_mk0))), rfl, bel.frame _, fun h => by cases h⟩

theorem over : Rows.fnExactDecodeMovedRow.holds Try.pinned (OpenSpec.ofChange Rows.fnExactDecodeMovedSpec) :=
  OpenClaim.holds_of_wide 10 Try.f10 rfl rfl rfl rfl rfl rfl rfl ⟨rfl, rfl, rfl, rfl, rfl⟩ rfl rfl rfl rfl rfl (by kernel_rfl) Try.func10 (by kernel_rfl)
    (of_decide_eq_true (by kernel_rfl)) (by unfold Func.isWrapper; first | (rw [if_pos (by decide +kernel)]; kernel_rfl) | (rw [if_neg (by decide +kernel)]; exact ⟨rfl, rfl⟩))
    (fun os started H enc _ => lifted os started H enc)

theorem proved : Rows.FnExactDecodeMovedSaid :=
  over
#print axioms proved
end Go.Proofs.Ytkmmogdiekillaa.fnExactDecodeMoved
