/- impl's DecodeNear. -/
import Derived.Test.YtelkflgmjfmadaaPosM
namespace Go.Proofs.Ytelkflgmjfmadaa.posn
open Go.RowKit Go.Proofs.Ytelkflgmjfmadaa.pos Go.Proofs.Ytelkflgmjfmadaa.in_ Go.Proofs.Ytelkflgmjfmadaa.posi Go.Proofs.Ytelkflgmjfmadaa.posj Go.Proofs.Ytelkflgmjfmadaa.posm Go.Proofs.Ytelkflgmjfmadaa.ats

def dnT (o : Bool) (a b x y : Int) : Value := .tuple #[.agg #[.int .i64 (dnX o a b x y), .int .i64 (dnY o a b x y)], .bool (dnB o a b x y)]
theorem dn_no {o : Bool} {a b x y : Int} (h : dnB o a b x y = false) : (Value.tuple #[.agg #[.int .i64 0, .int .i64 0], .bool false]) = dnT o a b x y := by unfold dnT dnX dnY; rw [h]; rfl
theorem dn_yes {o : Bool} {a b x y : Int} (h : dnB o a b x y = true) : (Value.tuple #[.agg #[.int .i64 (first (max (x - aw o a b x y) 0) a (sz o)), .int .i64 (first (max (y - aw o a b x y) 0) b (sz o))], .bool true]) = dnT o a b x y := by unfold dnT dnX dnY; rw [h]; rfl

set_option maxRecDepth 100000 in
set_option maxHeartbeats 4000000 in
theorem decodeNear (o : Bool) (a b x y : Int) (w : World) :
    Calls Try.prog 13 #[.agg #[.bool o, .int .i64 a, .int .i64 b], .agg #[.int .i64 x, .int .i64 y]] w
      fun e w' => e = .returned (.tuple #[.agg #[.int .i64 (dnX o a b x y), .int .i64 (dnY o a b x y)], .bool (dnB o a b x y)]) ∧ Below w.heap.size w w' := by
  show Calls _ _ _ w fun e w' => e = .returned (dnT o a b x y) ∧ Below w.heap.size w w'
  have hv := fun w => isValidReport o a b w
  have hp := fun w => isValidPlace x y w
  have A0 := Lib.hid (((newS 29 #[.bool o, .int .i64 a, .int .i64 b] w).alloc (.cells #[.int .i64 x, .int .i64 y] 25)).alloc (.cells #[.int .i64 0, .int .i64 0] 25))
  have B0 := Lib.hid (((newS 29 #[.bool o, .int .i64 a, .int .i64 b] w).next 25 #[.int .i64 x, .int .i64 y]).alloc (.cells #[.int .i64 0, .int .i64 0] 25))
  have C0 := Lib.hid (((newS 29 #[.bool o, .int .i64 a, .int .i64 b] w).alloc (.cells #[.int .i64 x, .int .i64 y] 25)).next 25 #[.int .i64 0, .int .i64 0])
  rw [World.size_alloc] at B0
  rw [World.size_alloc, World.size_alloc] at C0
  have HN := Lib.hid (fun h => dn_no (o := o) (a := a) (b := b) (x := x) (y := y) h)
  have HY := Lib.hid (fun h => dn_yes (o := o) (a := a) (b := b) (x := x) (y := y) h)
  have HB := Lib.hid (show dnB o a b x y = (rB o a b && pB x y) from rfl)
  cases hq : rB o a b
  · have HR := Lib.hid (HN.out (by rw [HB.out, hq]; rfl))
    rw [hq] at hv
    have HV := Lib.hid hv
    clear hv hp hq HN HY HB
    go_enter Try.func13, Try.ntmps13
    go_wp2_with fail
    generalize ((w.alloc (.cells #[.bool o, .int .i64 a, .int .i64 b] 29)).alloc (.cells #[.int .i64 x, .int .i64 y] 25)).alloc (.cells #[.int .i64 0, .int .i64 0] 25) = W at *
    refine (HV.out W).mono ?_
    rintro e w1 ⟨rfl, hb1⟩
    have A1 := Lib.hid (A0.out.old hb1)
    have B1 := Lib.hid (B0.out.old hb1)
    have C1 := Lib.hid (C0.out.old hb1)
    have a_0 : w1.cell? ⟨w.heap.size, 0, none⟩ = some (.bool o) := A1.out.cell 0
    have a_1 : w1.cell? ⟨w.heap.size, 1, none⟩ = some (.int .i64 a) := A1.out.cell 1
    have a_2 : w1.cell? ⟨w.heap.size, 2, none⟩ = some (.int .i64 b) := A1.out.cell 2
    have b_0 : w1.cell? ⟨w.heap.size + 1, 0, none⟩ = some (.int .i64 x) := B1.out.cell 0
    have b_1 : w1.cell? ⟨w.heap.size + 1, 1, none⟩ = some (.int .i64 y) := B1.out.cell 1
    have c_0 : w1.cell? ⟨w.heap.size + 1 + 1, 0, none⟩ = some (.int .i64 0) := C1.out.cell 0
    have c_1 : w1.cell? ⟨w.heap.size + 1 + 1, 1, none⟩ = some (.int .i64 0) := C1.out.cell 1
    have f_0 : w1.frozen? ⟨w.heap.size + 1 + 1, 0, none⟩ = false := C1.out.frozen 0
    have f_1 : w1.frozen? ⟨w.heap.size + 1 + 1, 1, none⟩ = false := C1.out.frozen 1
    clear hb1 A0 B0 C0
    have HE := Lib.hid ((C1.out.set 0 (.int .i64 0)).set 1 (.int .i64 0))
    go_wp2_with fail
    have hl := HE.out.load Try.underlying25 rfl (by kernel_rfl)
    refine bodyPost_ret (v := .tuple #[.agg #[.int .i64 0, .int .i64 0], .bool false]) ?_ rfl ⟨by rw [HR.out], HE.out.1⟩
    rw [results_cell_tmp rfl]
    simp [asAddr, Result.andThen, hl]
  · have HQ := Lib.hid hq
    rw [hq] at hv
    have HV := Lib.hid hv
    clear hv hq
    cases hq : pB x y
    · have HR := Lib.hid (HN.out (by rw [HB.out, hq]; simp))
      rw [hq] at hp
      have HP := Lib.hid hp
      clear hp hq HN HY HB HQ
      go_enter Try.func13, Try.ntmps13
      go_wp2_with fail
      generalize ((w.alloc (.cells #[.bool o, .int .i64 a, .int .i64 b] 29)).alloc (.cells #[.int .i64 x, .int .i64 y] 25)).alloc (.cells #[.int .i64 0, .int .i64 0] 25) = W at *
      refine (HV.out W).mono ?_
      rintro e w1 ⟨rfl, hb1⟩
      have A1 := Lib.hid (A0.out.old hb1)
      have B1 := Lib.hid (B0.out.old hb1)
      have C1 := Lib.hid (C0.out.old hb1)
      have a_0 : w1.cell? ⟨w.heap.size, 0, none⟩ = some (.bool o) := A1.out.cell 0
      have a_1 : w1.cell? ⟨w.heap.size, 1, none⟩ = some (.int .i64 a) := A1.out.cell 1
      have a_2 : w1.cell? ⟨w.heap.size, 2, none⟩ = some (.int .i64 b) := A1.out.cell 2
      have b_0 : w1.cell? ⟨w.heap.size + 1, 0, none⟩ = some (.int .i64 x) := B1.out.cell 0
      have b_1 : w1.cell? ⟨w.heap.size + 1, 1, none⟩ = some (.int .i64 y) := B1.out.cell 1
      have c_0 : w1.cell? ⟨w.heap.size + 1 + 1, 0, none⟩ = some (.int .i64 0) := C1.out.cell 0
      have c_1 : w1.cell? ⟨w.heap.size + 1 + 1, 1, none⟩ = some (.int .i64 0) := C1.out.cell 1
      have f_0 : w1.frozen? ⟨w.heap.size + 1 + 1, 0, none⟩ = false := C1.out.frozen 0
      have f_1 : w1.frozen? ⟨w.heap.size + 1 + 1, 1, none⟩ = false := C1.out.frozen 1
      clear hb1 A0 B0 C0
      go_wp2_with fail
      refine (HP.out w1).mono ?_
      rintro e w2 ⟨rfl, hb2⟩
      have A2 := Lib.hid (A1.out.old hb2)
      have B2 := Lib.hid (B1.out.old hb2)
      have C2 := Lib.hid (C1.out.old hb2)
      clear a_0 a_1 a_2 b_0 b_1 c_0 c_1 f_0 f_1
      have a_0 : w2.cell? ⟨w.heap.size, 0, none⟩ = some (.bool o) := A2.out.cell 0
      have a_1 : w2.cell? ⟨w.heap.size, 1, none⟩ = some (.int .i64 a) := A2.out.cell 1
      have a_2 : w2.cell? ⟨w.heap.size, 2, none⟩ = some (.int .i64 b) := A2.out.cell 2
      have b_0 : w2.cell? ⟨w.heap.size + 1, 0, none⟩ = some (.int .i64 x) := B2.out.cell 0
      have b_1 : w2.cell? ⟨w.heap.size + 1, 1, none⟩ = some (.int .i64 y) := B2.out.cell 1
      have c_0 : w2.cell? ⟨w.heap.size + 1 + 1, 0, none⟩ = some (.int .i64 0) := C2.out.cell 0
      have c_1 : w2.cell? ⟨w.heap.size + 1 + 1, 1, none⟩ = some (.int .i64 0) := C2.out.cell 1
      have f_0 : w2.frozen? ⟨w.heap.size + 1 + 1, 0, none⟩ = false := C2.out.frozen 0
      have f_1 : w2.frozen? ⟨w.heap.size + 1 + 1, 1, none⟩ = false := C2.out.frozen 1
      clear hb2 A1 B1 C1
      have HE := Lib.hid ((C2.out.set 0 (.int .i64 0)).set 1 (.int .i64 0))
      go_wp2_with fail
      have hl := HE.out.load Try.underlying25 rfl (by kernel_rfl)
      refine bodyPost_ret (v := .tuple #[.agg #[.int .i64 0, .int .i64 0], .bool false]) ?_ rfl ⟨by rw [HR.out], HE.out.1⟩
      rw [results_cell_tmp rfl]
      simp [asAddr, Result.andThen, hl]
    · have HQ2 := Lib.hid hq
      rw [hq] at hp
      have HP := Lib.hid hp
      clear hp hq
      have HR := Lib.hid (HY.out (by rw [HB.out, HQ.out, HQ2.out]; rfl))
      obtain ⟨ga, gb⟩ := rB_yes HQ.out
      obtain ⟨gx, gy⟩ := pB_yes HQ2.out
      have S := Lib.hid (fun w => posi.sizeOf o w)
      have L1 := Lib.hid (fun w => flip (leastDifference x a (sz o) (sz_or o) ga gx w))
      have L2 := Lib.hid (fun w => flip (leastDifference y b (sz o) (sz_or o) gb gy w))
      have lx := ld_in (sz_or o) ga gx
      have ly := ld_in (sz_or o) gb gy
      have f1 := fun (m : Int) (hm : 0 ≤ m ∧ m ≤ 9899) w => flip (firstFrom m a (sz o) (sz_or o) ga ⟨hm.1, by omega⟩ w)
      have f2 := fun (m : Int) (hm : 0 ≤ m ∧ m ≤ 9899) w => flip (firstFrom m b (sz o) (sz_or o) gb ⟨hm.1, by omega⟩ w)
      have haw : aw o a b x y = max (ld x a (sz o)) (ld y b (sz o)) := rfl
      have h1 := f1 (max (x - aw o a b x y) 0) ⟨by omega, by omega⟩
      have h2 := f2 (max (y - aw o a b x y) 0) ⟨by omega, by omega⟩
      clear f1 f2 ga gb HQ HQ2 HB HN HY
      generalize sz o = s at *
      generalize aw o a b x y = D at *
      generalize ld x a s = dx at *
      generalize ld y b s = dy at *
      generalize first (max (x - D) 0) a s = X at *
      generalize first (max (y - D) 0) b s = Y at *
      obtain ⟨dx0, dx1⟩ := lx
      obtain ⟨dy0, dy1⟩ := ly
      obtain ⟨x0, x1⟩ := gx
      obtain ⟨y0, y1⟩ := gy
      have H1 := Lib.hid h1
      have H2 := Lib.hid h2
      have HAW := Lib.hid haw
      clear h1 h2 haw
      go_enter Try.func13, Try.ntmps13
      go_wp2_with fail
      generalize ((w.alloc (.cells #[.bool o, .int .i64 a, .int .i64 b] 29)).alloc (.cells #[.int .i64 x, .int .i64 y] 25)).alloc (.cells #[.int .i64 0, .int .i64 0] 25) = W at *
      refine (HV.out W).mono ?_
      rintro e w1 ⟨rfl, hb1⟩
      have A1 := Lib.hid (A0.out.old hb1)
      have B1 := Lib.hid (B0.out.old hb1)
      have C1 := Lib.hid (C0.out.old hb1)
      have a_0 : w1.cell? ⟨w.heap.size, 0, none⟩ = some (.bool o) := A1.out.cell 0
      have a_1 : w1.cell? ⟨w.heap.size, 1, none⟩ = some (.int .i64 a) := A1.out.cell 1
      have a_2 : w1.cell? ⟨w.heap.size, 2, none⟩ = some (.int .i64 b) := A1.out.cell 2
      have b_0 : w1.cell? ⟨w.heap.size + 1, 0, none⟩ = some (.int .i64 x) := B1.out.cell 0
      have b_1 : w1.cell? ⟨w.heap.size + 1, 1, none⟩ = some (.int .i64 y) := B1.out.cell 1
      have c_0 : w1.cell? ⟨w.heap.size + 1 + 1, 0, none⟩ = some (.int .i64 0) := C1.out.cell 0
      have c_1 : w1.cell? ⟨w.heap.size + 1 + 1, 1, none⟩ = some (.int .i64 0) := C1.out.cell 1
      have f_0 : w1.frozen? ⟨w.heap.size + 1 + 1, 0, none⟩ = false := C1.out.frozen 0
      have f_1 : w1.frozen? ⟨w.heap.size + 1 + 1, 1, none⟩ = false := C1.out.frozen 1
      clear hb1 A0 B0 C0
      go_wp2_with fail
      refine (HP.out w1).mono ?_
      rintro e w2 ⟨rfl, hb2⟩
      have A2 := Lib.hid (A1.out.old hb2)
      have B2 := Lib.hid (B1.out.old hb2)
      have C2 := Lib.hid (C1.out.old hb2)
      clear a_0 a_1 a_2 b_0 b_1 c_0 c_1 f_0 f_1
      have a_0 : w2.cell? ⟨w.heap.size, 0, none⟩ = some (.bool o) := A2.out.cell 0
      have a_1 : w2.cell? ⟨w.heap.size, 1, none⟩ = some (.int .i64 a) := A2.out.cell 1
      have a_2 : w2.cell? ⟨w.heap.size, 2, none⟩ = some (.int .i64 b) := A2.out.cell 2
      have b_0 : w2.cell? ⟨w.heap.size + 1, 0, none⟩ = some (.int .i64 x) := B2.out.cell 0
      have b_1 : w2.cell? ⟨w.heap.size + 1, 1, none⟩ = some (.int .i64 y) := B2.out.cell 1
      have c_0 : w2.cell? ⟨w.heap.size + 1 + 1, 0, none⟩ = some (.int .i64 0) := C2.out.cell 0
      have c_1 : w2.cell? ⟨w.heap.size + 1 + 1, 1, none⟩ = some (.int .i64 0) := C2.out.cell 1
      have f_0 : w2.frozen? ⟨w.heap.size + 1 + 1, 0, none⟩ = false := C2.out.frozen 0
      have f_1 : w2.frozen? ⟨w.heap.size + 1 + 1, 1, none⟩ = false := C2.out.frozen 1
      clear hb2 A1 B1 C1
      go_wp2_with fail
      refine (S.out _).mono ?_
      rintro e w3 ⟨rfl, rfl⟩
      go_upto_region 4 with fail
      go_cut [7] from 20 to 32 (fun v wx => v = .int .i64 D ∧ wx = w2.drew)
      case first =>
        by_cases hd : dx < dy
        · have HM := Lib.hid (show D = dy by have := HAW.out; omega)
          go_region_held3 (fun w' => w'.cell? ⟨w.heap.size, 1, none⟩ = some (.int .i64 a) ∧ w'.cell? ⟨w.heap.size, 2, none⟩ = some (.int .i64 b) ∧ w'.cell? ⟨w.heap.size + 1, 0, none⟩ = some (.int .i64 x) ∧ w'.cell? ⟨w.heap.size + 1, 1, none⟩ = some (.int .i64 y)) (first
            | exact ⟨a_1, a_2, b_0, b_1⟩
            | go_keep) (first
            | (go_at_call 53; (with_reducible refine (L1.out _).mono ?_); rintro e w' ⟨rfl, rfl⟩)
            | (go_at_call 53; (with_reducible refine (L2.out _).mono ?_); rintro e w' ⟨rfl, rfl⟩))
          all_goals (go_wp2_with fail; go_meet; exact ⟨by rw [HM.out], rfl⟩)
        · have HM := Lib.hid (show D = dx by have := HAW.out; omega)
          go_region_held3 (fun w' => w'.cell? ⟨w.heap.size, 1, none⟩ = some (.int .i64 a) ∧ w'.cell? ⟨w.heap.size, 2, none⟩ = some (.int .i64 b) ∧ w'.cell? ⟨w.heap.size + 1, 0, none⟩ = some (.int .i64 x) ∧ w'.cell? ⟨w.heap.size + 1, 1, none⟩ = some (.int .i64 y)) (first
            | exact ⟨a_1, a_2, b_0, b_1⟩
            | go_keep) (first
            | (go_at_call 53; (with_reducible refine (L1.out _).mono ?_); rintro e w' ⟨rfl, rfl⟩)
            | (go_at_call 53; (with_reducible refine (L2.out _).mono ?_); rintro e w' ⟨rfl, rfl⟩))
          all_goals (go_wp2_with fail; go_meet; exact ⟨by rw [HM.out], rfl⟩)
      case rest =>
        obtain ⟨rfl, rfl⟩ := hcut
        have D0 : 0 ≤ D := by have := HAW.out; omega
        have D1 : D ≤ 9899 := by have := HAW.out; omega
        have A3 := Lib.hid A2.out.drew
        have B3 := Lib.hid B2.out.drew
        have C3 := Lib.hid C2.out.drew
        clear a_0 a_1 a_2 b_0 b_1 c_0 c_1 f_0 f_1 A2 B2 C2 HAW L1 L2 dx0 dx1 dy0 dy1
        generalize w2.drew = w4 at *
        have a_0 : w4.cell? ⟨w.heap.size, 0, none⟩ = some (.bool o) := A3.out.cell 0
        have a_1 : w4.cell? ⟨w.heap.size, 1, none⟩ = some (.int .i64 a) := A3.out.cell 1
        have a_2 : w4.cell? ⟨w.heap.size, 2, none⟩ = some (.int .i64 b) := A3.out.cell 2
        have b_0 : w4.cell? ⟨w.heap.size + 1, 0, none⟩ = some (.int .i64 x) := B3.out.cell 0
        have b_1 : w4.cell? ⟨w.heap.size + 1, 1, none⟩ = some (.int .i64 y) := B3.out.cell 1
        have c_0 : w4.cell? ⟨w.heap.size + 1 + 1, 0, none⟩ = some (.int .i64 0) := C3.out.cell 0
        have c_1 : w4.cell? ⟨w.heap.size + 1 + 1, 1, none⟩ = some (.int .i64 0) := C3.out.cell 1
        have f_0 : w4.frozen? ⟨w.heap.size + 1 + 1, 0, none⟩ = false := C3.out.frozen 0
        have f_1 : w4.frozen? ⟨w.heap.size + 1 + 1, 1, none⟩ = false := C3.out.frozen 1
        have HE := Lib.hid (((C3.out.set 0 (.int .i64 X)).set 1 (.int .i64 Y)).drew)
        have A4 := ((A3.out.drew.other (b' := w.heap.size + 1 + 1) (by omega) (by omega) 0 (.int .i64 X)).other (b' := w.heap.size + 1 + 1) (by omega) (by omega) 1 (.int .i64 Y))
        have B4 := ((B3.out.drew.other (b' := w.heap.size + 1 + 1) (by omega) (by omega) 0 (.int .i64 X)).other (b' := w.heap.size + 1 + 1) (by omega) (by omega) 1 (.int .i64 Y))
        have K2 := Lib.hid (And.intro (A4.cell 1) (And.intro (A4.cell 2) (And.intro (B4.cell 0) (B4.cell 1))))
        have h1 := H1.out
        have h2 := H2.out
        clear A3 B3 C3 A4 B4 H1 H2
        obtain ⟨mx, hmx⟩ : ∃ m, max (x - D) 0 = m := ⟨_, rfl⟩
        obtain ⟨my, hmy⟩ : ∃ m, max (y - D) 0 = m := ⟨_, rfl⟩
        rw [hmx] at h1
        rw [hmy] at h2
        obtain ⟨ux, hux⟩ : ∃ m, IntKind.i64.wrap (x - D) = m := ⟨_, rfl⟩
        obtain ⟨uy, huy⟩ : ∃ m, IntKind.i64.wrap (y - D) = m := ⟨_, rfl⟩
        have hix : (if ux < 0 then (0 : Int) else ux) = mx := by rw [← hmx, ← hux, IntWalk.i64_in _ (by omega)]; split <;> omega
        have hiy : (if uy < 0 then (0 : Int) else uy) = my := by rw [← hmy, ← huy, IntWalk.i64_in _ (by omega)]; split <;> omega
        skip
        all_goals
          clear hmx hmy
          have H1 := Lib.hid h1
          have H2 := Lib.hid h2
          clear h1 h2
          go_upto_region 5 with fail
          go_region_held3 (fun w' => w'.cell? ⟨w.heap.size, 1, none⟩ = some (.int .i64 a) ∧ w'.cell? ⟨w.heap.size, 2, none⟩ = some (.int .i64 b) ∧ w'.cell? ⟨w.heap.size + 1, 0, none⟩ = some (.int .i64 x) ∧ w'.cell? ⟨w.heap.size + 1, 1, none⟩ = some (.int .i64 y)) (first
            | exact ⟨a_1, a_2, b_0, b_1⟩
            | exact K2.out
            | go_keep) (first
            | (go_at_call 54; (with_reducible refine (H1.out _).mono ?_); rintro e w' ⟨rfl, rfl⟩)
            | (go_at_call 54; (with_reducible refine (H2.out _).mono ?_); rintro e w' ⟨rfl, rfl⟩))
          all_goals
            go_wp2_with fail
            have hl := HE.out.load Try.underlying25 rfl (by kernel_rfl)
            refine bodyPost_ret (v := .tuple #[.agg #[.int .i64 X, .int .i64 Y], .bool true]) ?_ rfl ⟨by rw [HR.out], HE.out.1⟩
            rw [results_cell_tmp rfl]
            simp [asAddr, Result.andThen, hl]
end Go.Proofs.Ytelkflgmjfmadaa.posn
