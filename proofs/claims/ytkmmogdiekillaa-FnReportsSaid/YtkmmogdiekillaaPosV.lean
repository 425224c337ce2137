/- spec's DecodeNear. -/
import Derived.Test.YtkmmogdiekillaaPosU
import Derived.Test.YtkmmogdiekillaaPosN
namespace Go.Proofs.Ytkmmogdiekillaa.posv
open Go.RowKit Go.Proofs.Ytkmmogdiekillaa.pos Go.Proofs.Ytkmmogdiekillaa.in_ Go.Proofs.Ytkmmogdiekillaa.posj Go.Proofs.Ytkmmogdiekillaa.posm Go.Proofs.Ytkmmogdiekillaa.posn Go.Proofs.Ytkmmogdiekillaa.poss Go.Proofs.Ytkmmogdiekillaa.post Go.Proofs.Ytkmmogdiekillaa.posu Go.Proofs.Ytkmmogdiekillaa.ats

set_option maxRecDepth 100000 in
set_option maxHeartbeats 4000000 in
theorem decodeNear (o : Bool) (a b x y : Int) (w : World) :
    Calls Try.prog 36 #[.agg #[.bool o, .int .i64 a, .int .i64 b], .agg #[.int .i64 x, .int .i64 y]] w
      fun e w' => e = .returned (.tuple #[.agg #[.int .i64 (dnX o a b x y), .int .i64 (dnY o a b x y)], .bool (dnB o a b x y)]) ∧ Below w.heap.size w w' := by
  show Calls _ _ _ w fun e w' => e = .returned (dnT o a b x y) ∧ Below w.heap.size w w'
  have hv := fun w => report7 o a b w
  have hp := fun w => good7 x y w
  have A0 := Lib.hid (((newS 29 #[.bool o, .int .i64 a, .int .i64 b] w).alloc (.cells #[.int .i64 x, .int .i64 y] 25)).alloc (.cells #[.int .i64 0, .int .i64 0] 25))
  have B0 := Lib.hid (((newS 29 #[.bool o, .int .i64 a, .int .i64 b] w).next 25 #[.int .i64 x, .int .i64 y]).alloc (.cells #[.int .i64 0, .int .i64 0] 25))
  have C0 := Lib.hid (((newS 29 #[.bool o, .int .i64 a, .int .i64 b] w).alloc (.cells #[.int .i64 x, .int .i64 y] 25)).next 25 #[.int .i64 0, .int .i64 0])
  rw [World.size_alloc] at B0
  rw [World.size_alloc, World.size_alloc] at C0
  have HN := Lib.hid (fun h => dn_no (o := o) (a := a) (b := b) (x := x) (y := y) h)
  have HY := Lib.hid (fun h => dn_yes (o := o) (a := a) (b := b) (x := x) (y := y) h)
  have HB := Lib.hid (show dnB o a b x y = (rB o a b && pB x y) from rfl)
  cases hq : rB o a b
  · have HR := Lib.hid (HN.out (by rw [HB.out, hq]; rfl))
    rw [hq] at hv
    have HV := Lib.hid hv
    clear hv hp hq HN HY HB
    go_enter Try.func36, Try.ntmps36
    go_wp2_with fail
    generalize ((w.alloc (.cells #[.bool o, .int .i64 a, .int .i64 b] 29)).alloc (.cells #[.int .i64 x, .int .i64 y] 25)).alloc (.cells #[.int .i64 0, .int .i64 0] 25) = W at *
    refine (HV.out W).mono ?_
    rintro e w1 ⟨rfl, hb1⟩
    have A1 := Lib.hid (A0.out.old hb1)
    have B1 := Lib.hid (B0.out.old hb1)
    have C1 := Lib.hid (C0.out.old hb1)
    have a_0 : w1.cell? ⟨w.heap.size, 0, none⟩ = some (.bool o) := A1.out.cell 0
    have a_1 : w1.cell? ⟨w.heap.size, 1, none⟩ = some (.int .i64 a) := A1.out.cell 1
    have a_2 : w1.cell? ⟨w.heap.size, 2, none⟩ = some (.int .i64 b) := A1.out.cell 2
    have b_0 : w1.cell? ⟨w.heap.size + 1, 0, none⟩ = some (.int .i64 x) := B1.out.cell 0
    have b_1 : w1.cell? ⟨w.heap.size + 1, 1, none⟩ = some (.int .i64 y) := B1.out.cell 1
    have c_0 : w1.cell? ⟨w.heap.size + 1 + 1, 0, none⟩ = some (.int .i64 0) := C1.out.cell 0
    have c_1 : w1.cell? ⟨w.heap.size + 1 + 1, 1, none⟩ = some (.int .i64 0) := C1.out.cell 1
    have f_0 : w1.frozen? ⟨w.heap.size + 1 + 1, 0, none⟩ = false := C1.out.frozen 0
    have f_1 : w1.frozen? ⟨w.heap.size + 1 + 1, 1, none⟩ = false := C1.out.frozen 1
    clear hb1 A0 B0 C0
    have HE := Lib.hid ((C1.out.set 0 (.int .i64 0)).set 1 (.int .i64 0))
    go_wp2_with fail
    have hl := HE.out.load Try.underlying25 rfl (by kernel_rfl)
    refine bodyPost_ret (v := .tuple #[.agg #[.int .i64 0, .int .i64 0], .bool false]) ?_ rfl ⟨by rw [HR.out], HE.out.1⟩
    rw [results_cell_tmp rfl]
    simp [asAddr, Result.andThen, hl]
  · have HQ := Lib.hid hq
    rw [hq] at hv
    have HV := Lib.hid hv
    clear hv hq
    cases hq : pB x y
    · have HR := Lib.hid (HN.out (by rw [HB.out, hq]; simp))
      rw [hq] at hp
      have HP := Lib.hid hp
      clear hp hq HN HY HB HQ
      go_enter Try.func36, Try.ntmps36
      go_wp2_with fail
      generalize ((w.alloc (.cells #[.bool o, .int .i64 a, .int .i64 b] 29)).alloc (.cells #[.int .i64 x, .int .i64 y] 25)).alloc (.cells #[.int .i64 0, .int .i64 0] 25) = W at *
      refine (HV.out W).mono ?_
      rintro e w1 ⟨rfl, hb1⟩
      have A1 := Lib.hid (A0.out.old hb1)
      have B1 := Lib.hid (B0.out.old hb1)
      have C1 := Lib.hid (C0.out.old hb1)
      have a_0 : w1.cell? ⟨w.heap.size, 0, none⟩ = some (.bool o) := A1.out.cell 0
      have a_1 : w1.cell? ⟨w.heap.size, 1, none⟩ = some (.int .i64 a) := A1.out.cell 1
      have a_2 : w1.cell? ⟨w.heap.size, 2, none⟩ = some (.int .i64 b) := A1.out.cell 2
      have b_0 : w1.cell? ⟨w.heap.size + 1, 0, none⟩ = some (.int .i64 x) := B1.out.cell 0
      have b_1 : w1.cell? ⟨w.heap.size + 1, 1, none⟩ = some (.int .i64 y) := B1.out.cell 1
      have c_0 : w1.cell? ⟨w.heap.size + 1 + 1, 0, none⟩ = some (.int .i64 0) := C1.out.cell 0
      have c_1 : w1.cell? ⟨w.heap.size + 1 + 1, 1, none⟩ = some (.int .i64 0) := C1.out.cell 1
      have f_0 : w1.frozen? ⟨w.heap.size + 1 + 1, 0, none⟩ = false := C1.out.frozen 0
      have f_1 : w1.frozen? ⟨w.heap.size + 1 + 1, 1, none⟩ = false := C1.out.frozen 1
      clear hb1 A0 B0 C0
      go_wp2_with fail
      refine (HP.out w1).mono ?_
      rintro e w2 ⟨rfl, hb2⟩
      have A2 := Lib.hid (A1.out.old hb2)
      have B2 := Lib.hid (B1.out.old hb2)
      have C2 := Lib.hid (C1.out.old hb2)
      clear a_0 a_1 a_2 b_0 b_1 c_0 c_1 f_0 f_1
      have a_0 : w2.cell? ⟨w.heap.size, 0, none⟩ = some (.bool o) := A2.out.cell 0
      have a_1 : w2.cell? ⟨w.heap.size, 1, none⟩ = some (.int .i64 a) := A2.out.cell 1
      have a_2 : w2.cell? ⟨w.heap.size, 2, none⟩ = some (.int .i64 b) := A2.out.cell 2
      have b_0 : w2.cell? ⟨w.heap.size + 1, 0, none⟩ = some (.int .i64 x) := B2.out.cell 0
      have b_1 : w2.cell? ⟨w.heap.size + 1, 1, none⟩ = some (.int .i64 y) := B2.out.cell 1
      have c_0 : w2.cell? ⟨w.heap.size + 1 + 1, 0, none⟩ = some (.int .i64 0) := C2.out.cell 0
      have c_1 : w2.cell? ⟨w.heap.size + 1 + 1, 1, none⟩ = some (.int .i64 0) := C2.out.cell 1
      have f_0 : w2.frozen? ⟨w.heap.size + 1 + 1, 0, none⟩ = false := C2.out.frozen 0
      have f_1 : w2.frozen? ⟨w.heap.size + 1 + 1, 1, none⟩ = false := C2.out.frozen 1
      clear hb2 A1 B1 C1
      have HE := Lib.hid ((C2.out.set 0 (.int .i64 0)).set 1 (.int .i64 0))
      go_wp2_with fail
      have hl := HE.out.load Try.underlying25 rfl (by kernel_rfl)
      refine bodyPost_ret (v := .tuple #[.agg #[.int .i64 0, .int .i64 0], .bool false]) ?_ rfl ⟨by rw [HR.out], HE.out.1⟩
      rw [results_cell_tmp rfl]
      simp [asAddr, Result.andThen, hl]
    · have HQ2 := Lib.hid hq
      rw [hq] at hp
      have HP := Lib.hid hp
      clear hp hq
      have HR := Lib.hid (HY.out (by rw [HB.out, HQ.out, HQ2.out]; rfl))
      obtain ⟨ga, gb⟩ := rB_yes HQ.out
      obtain ⟨gx, gy⟩ := pB_yes HQ2.out
      have S := Lib.hid (fun w => size7 o w)
      have N1 := Lib.hid (fun w d => aid.quiet_left (nearest7 a (sz o) x (sz_or o) ga gx (World.drewN w d)))
      have N2 := Lib.hid (fun w d => aid.quiet_left (nearest7 b (sz o) y (sz_or o) gb gy (World.drewN w d)))
      have qx := best_in (k := cnt a (sz o) 9899) (sz_or o) ga x (Nat.le_refl _)
      have qy := best_in (k := cnt b (sz o) 9899) (sz_or o) gb y (Nat.le_refl _)
      have ux := best_abs (sz_or o) ga gx
      have uy := best_abs (sz_or o) gb gy
      have haw : aw o a b x y = max (ld x a (sz o)) (ld y b (sz o)) := rfl
      have W1 := Lib.hid (fun w => flip (within7 a (sz o) x (aw o a b x y) (sz_or o) ga gx (by omega) w))
      have W2 := Lib.hid (fun w => flip (within7 b (sz o) y (aw o a b x y) (sz_or o) gb gy (by omega) w))
      clear ga gb HQ HQ2 HB HN HY
      generalize sz o = s at *
      generalize first (max (x - aw o a b x y) 0) a s = X at *
      generalize first (max (y - aw o a b x y) 0) b s = Y at *
      generalize aw o a b x y = D at *
      generalize ld x a s = dx at *
      generalize ld y b s = dy at *
      generalize bestT a s x (cnt a s 9899) = p at *
      generalize bestT b s y (cnt b s 9899) = q at *
      obtain ⟨qx0, qx1, -⟩ := qx
      obtain ⟨qy0, qy1, -⟩ := qy
      obtain ⟨x0, x1⟩ := gx
      obtain ⟨y0, y1⟩ := gy
      have g1 := fun w d => aid.quiet_left (abs7 (p - x) (World.drewN w d) (by omega) (by omega))
      have g2 := fun w d => aid.quiet_left (abs7 (q - y) (World.drewN w d) (by omega) (by omega))
      rw [ux] at g1
      rw [uy] at g2
      have g3 := fun w d => aid.quiet_left (most7 dx dy (World.drewN w d))
      rw [← haw] at g3
      have G1 := Lib.hid g1
      have G2 := Lib.hid g2
      have G3 := Lib.hid g3
      have e1 : IntKind.i64.wrap (p - x) = p - x := IntWalk.i64_in _ (by omega)
      have e2 : IntKind.i64.wrap (q - y) = q - y := IntWalk.i64_in _ (by omega)
      clear g1 g2 g3 haw ux uy
      go_enter Try.func36, Try.ntmps36
      go_wp2_with fail
      generalize ((w.alloc (.cells #[.bool o, .int .i64 a, .int .i64 b] 29)).alloc (.cells #[.int .i64 x, .int .i64 y] 25)).alloc (.cells #[.int .i64 0, .int .i64 0] 25) = W at *
      refine (HV.out W).mono ?_
      rintro e w1 ⟨rfl, hb1⟩
      have A1 := Lib.hid (A0.out.old hb1)
      have B1 := Lib.hid (B0.out.old hb1)
      have C1 := Lib.hid (C0.out.old hb1)
      have a_0 : w1.cell? ⟨w.heap.size, 0, none⟩ = some (.bool o) := A1.out.cell 0
      have a_1 : w1.cell? ⟨w.heap.size, 1, none⟩ = some (.int .i64 a) := A1.out.cell 1
      have a_2 : w1.cell? ⟨w.heap.size, 2, none⟩ = some (.int .i64 b) := A1.out.cell 2
      have b_0 : w1.cell? ⟨w.heap.size + 1, 0, none⟩ = some (.int .i64 x) := B1.out.cell 0
      have b_1 : w1.cell? ⟨w.heap.size + 1, 1, none⟩ = some (.int .i64 y) := B1.out.cell 1
      have c_0 : w1.cell? ⟨w.heap.size + 1 + 1, 0, none⟩ = some (.int .i64 0) := C1.out.cell 0
      have c_1 : w1.cell? ⟨w.heap.size + 1 + 1, 1, none⟩ = some (.int .i64 0) := C1.out.cell 1
      have f_0 : w1.frozen? ⟨w.heap.size + 1 + 1, 0, none⟩ = false := C1.out.frozen 0
      have f_1 : w1.frozen? ⟨w.heap.size + 1 + 1, 1, none⟩ = false := C1.out.frozen 1
      clear hb1 A0 B0 C0
      go_wp2_with fail
      refine (HP.out w1).mono ?_
      rintro e w2 ⟨rfl, hb2⟩
      have A2 := Lib.hid (A1.out.old hb2)
      have B2 := Lib.hid (B1.out.old hb2)
      have C2 := Lib.hid (C1.out.old hb2)
      clear a_0 a_1 a_2 b_0 b_1 c_0 c_1 f_0 f_1
      have a_0 : w2.cell? ⟨w.heap.size, 0, none⟩ = some (.bool o) := A2.out.cell 0
      have a_1 : w2.cell? ⟨w.heap.size, 1, none⟩ = some (.int .i64 a) := A2.out.cell 1
      have a_2 : w2.cell? ⟨w.heap.size, 2, none⟩ = some (.int .i64 b) := A2.out.cell 2
      have b_0 : w2.cell? ⟨w.heap.size + 1, 0, none⟩ = some (.int .i64 x) := B2.out.cell 0
      have b_1 : w2.cell? ⟨w.heap.size + 1, 1, none⟩ = some (.int .i64 y) := B2.out.cell 1
      have c_0 : w2.cell? ⟨w.heap.size + 1 + 1, 0, none⟩ = some (.int .i64 0) := C2.out.cell 0
      have c_1 : w2.cell? ⟨w.heap.size + 1 + 1, 1, none⟩ = some (.int .i64 0) := C2.out.cell 1
      have f_0 : w2.frozen? ⟨w.heap.size + 1 + 1, 0, none⟩ = false := C2.out.frozen 0
      have f_1 : w2.frozen? ⟨w.heap.size + 1 + 1, 1, none⟩ = false := C2.out.frozen 1
      clear hb2 A1 B1 C1
      go_wp2_with fail
      refine (S.out _).mono ?_
      rintro e w3 ⟨rfl, rfl⟩
      go_upto_region 4 with fail
      go_cut [7, 8] from 22 to 33 (fun u v wx => u = .int .i64 p ∧ v = .int .i64 q ∧ ∃ j, wx = w2.drewN j)
      case first =>
        go_quiet (first
          | (go_at_call 75; first | (with_reducible exact N1.out _ _) | (with_reducible exact N2.out _ _)))
        go_wp2_with fail
        go_meet
        exact ⟨rfl, rfl, _, rfl⟩
      case rest =>
        obtain ⟨rfl, rfl, j, rfl⟩ := hcut
        have A3 := Lib.hid (A2.out.drewN j)
        have B3 := Lib.hid (B2.out.drewN j)
        have C3 := Lib.hid (C2.out.drewN j)
        clear A2 B2 C2
        clear a_0 a_1 a_2 b_0 b_1 c_0 c_1 f_0 f_1
        generalize w2.drewN j = w4 at *
        have a_0 : w4.cell? ⟨w.heap.size, 0, none⟩ = some (.bool o) := A3.out.cell 0
        have a_1 : w4.cell? ⟨w.heap.size, 1, none⟩ = some (.int .i64 a) := A3.out.cell 1
        have a_2 : w4.cell? ⟨w.heap.size, 2, none⟩ = some (.int .i64 b) := A3.out.cell 2
        have b_0 : w4.cell? ⟨w.heap.size + 1, 0, none⟩ = some (.int .i64 x) := B3.out.cell 0
        have b_1 : w4.cell? ⟨w.heap.size + 1, 1, none⟩ = some (.int .i64 y) := B3.out.cell 1
        have c_0 : w4.cell? ⟨w.heap.size + 1 + 1, 0, none⟩ = some (.int .i64 0) := C3.out.cell 0
        have c_1 : w4.cell? ⟨w.heap.size + 1 + 1, 1, none⟩ = some (.int .i64 0) := C3.out.cell 1
        have f_0 : w4.frozen? ⟨w.heap.size + 1 + 1, 0, none⟩ = false := C3.out.frozen 0
        have f_1 : w4.frozen? ⟨w.heap.size + 1 + 1, 1, none⟩ = false := C3.out.frozen 1
        go_upto_region 5 with fail
        go_cut [9] from 34 to 44 (fun u wx => u = .int .i64 D ∧ ∃ j, wx = w4.drewN j)
        case first =>
          go_quiet (first
            | (go_at_call 77; first | (with_reducible exact G1.out _ _) | (with_reducible exact G2.out _ _))
            | (go_at_call 76; with_reducible exact G3.out _ _))
          go_wp2_with fail
          go_meet
          exact ⟨rfl, _, rfl⟩
        case rest =>
          obtain ⟨rfl, j2, rfl⟩ := hcut
          have A4 := Lib.hid (A3.out.drewN j2)
          have B4 := Lib.hid (B3.out.drewN j2)
          have C4 := Lib.hid (C3.out.drewN j2)
          clear A3 B3 C3
          clear a_0 a_1 a_2 b_0 b_1 c_0 c_1 f_0 f_1
          generalize w4.drewN j2 = w5 at *
          have a_0 : w5.cell? ⟨w.heap.size, 0, none⟩ = some (.bool o) := A4.out.cell 0
          have a_1 : w5.cell? ⟨w.heap.size, 1, none⟩ = some (.int .i64 a) := A4.out.cell 1
          have a_2 : w5.cell? ⟨w.heap.size, 2, none⟩ = some (.int .i64 b) := A4.out.cell 2
          have b_0 : w5.cell? ⟨w.heap.size + 1, 0, none⟩ = some (.int .i64 x) := B4.out.cell 0
          have b_1 : w5.cell? ⟨w.heap.size + 1, 1, none⟩ = some (.int .i64 y) := B4.out.cell 1
          have c_0 : w5.cell? ⟨w.heap.size + 1 + 1, 0, none⟩ = some (.int .i64 0) := C4.out.cell 0
          have c_1 : w5.cell? ⟨w.heap.size + 1 + 1, 1, none⟩ = some (.int .i64 0) := C4.out.cell 1
          have f_0 : w5.frozen? ⟨w.heap.size + 1 + 1, 0, none⟩ = false := C4.out.frozen 0
          have f_1 : w5.frozen? ⟨w.heap.size + 1 + 1, 1, none⟩ = false := C4.out.frozen 1
          have HE := Lib.hid (((C4.out.set 0 (.int .i64 X)).set 1 (.int .i64 Y)).drew)
          have A5 := ((A4.out.drew.other (b' := w.heap.size + 1 + 1) (by omega) (by omega) 0 (.int .i64 X)).other (b' := w.heap.size + 1 + 1) (by omega) (by omega) 1 (.int .i64 Y))
          have B5 := ((B4.out.drew.other (b' := w.heap.size + 1 + 1) (by omega) (by omega) 0 (.int .i64 X)).other (b' := w.heap.size + 1 + 1) (by omega) (by omega) 1 (.int .i64 Y))
          have K2 := Lib.hid (And.intro (A5.cell 1) (And.intro (A5.cell 2) (And.intro (B5.cell 0) (B5.cell 1))))
          clear A4 B4 C4 A5 B5 N1 N2 G1 G2 G3 S
          go_upto_region 6 with fail
          go_region_held3 (fun w' => w'.cell? ⟨w.heap.size, 1, none⟩ = some (.int .i64 a) ∧ w'.cell? ⟨w.heap.size, 2, none⟩ = some (.int .i64 b) ∧ w'.cell? ⟨w.heap.size + 1, 0, none⟩ = some (.int .i64 x) ∧ w'.cell? ⟨w.heap.size + 1, 1, none⟩ = some (.int .i64 y)) (first
            | exact ⟨a_1, a_2, b_0, b_1⟩
            | exact K2.out
            | go_keep) (first
            | (go_at_call 78; (with_reducible refine (W1.out _).mono ?_); rintro e w' ⟨rfl, rfl⟩)
            | (go_at_call 78; (with_reducible refine (W2.out _).mono ?_); rintro e w' ⟨rfl, rfl⟩))
          all_goals
            go_wp2_with fail
            have hl := HE.out.load Try.underlying25 rfl (by kernel_rfl)
            refine bodyPost_ret (v := .tuple #[.agg #[.int .i64 X, .int .i64 Y], .bool true]) ?_ rfl ⟨by rw [HR.out], HE.out.1⟩
            rw [results_cell_tmp rfl]
            simp [asAddr, Result.andThen, hl]
end Go.Proofs.Ytkmmogdiekillaa.posv
