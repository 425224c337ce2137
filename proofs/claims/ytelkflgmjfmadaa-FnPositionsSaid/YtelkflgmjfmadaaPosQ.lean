/- impl's DecodeMoved and PlacesWith. -/
import Derived.Test.YtelkflgmjfmadaaPosM
import Derived.Test.YtelkflgmjfmadaaPosP
import Derived.Test.YtelkflgmjfmadaaPosX
import Derived.BigQuiet
import Derived.Deep.QuietTactic
namespace Go.Proofs.Ytelkflgmjfmadaa.posq
open Go.RowKit Go.Proofs.Ytelkflgmjfmadaa.pos Go.Proofs.Ytelkflgmjfmadaa.in_ Go.Proofs.Ytelkflgmjfmadaa.posi Go.Proofs.Ytelkflgmjfmadaa.posj Go.Proofs.Ytelkflgmjfmadaa.posm Go.Proofs.Ytelkflgmjfmadaa.posp Go.Proofs.Ytelkflgmjfmadaa.ats Go.Proofs.Ytelkflgmjfmadaa.ints Go.Proofs.Ytelkflgmjfmadaa.lst

theorem dm_no {o1 : Bool} {a1 b1 : Int} {o2 : Bool} {a2 b2 d : Int} (h : dmB o1 a1 b1 o2 a2 b2 d = false) : dmN o1 a1 b1 o2 a2 b2 d = 0 ∧ dmV o1 a1 b1 o2 a2 b2 d = [] := by unfold dmN dmV; rw [h]; exact ⟨rfl, rfl⟩
theorem dm_yes {o1 : Bool} {a1 b1 : Int} {o2 : Bool} {a2 b2 d : Int} (h : dmB o1 a1 b1 o2 a2 b2 d = true) : dmN o1 a1 b1 o2 a2 b2 d = (dmX o1 a1 o2 a2 d).length * (dmX o1 b1 o2 b2 d).length ∧ dmV o1 a1 b1 o2 a2 b2 d = places (dmX o1 a1 o2 a2 d) (dmX o1 b1 o2 b2 d) := by unfold dmN dmV; rw [h]; exact ⟨rfl, rfl⟩
theorem mv_len (r0 s0 r s d : Int) (hs : s = 99 ∨ s = 100) (hr : 0 ≤ r ∧ r < s) : (mv r0 s0 r s d).length ≤ 100 := Nat.le_trans (mvT_length _ _ _ _ _ _) (cnt_le hs hr (Int.le_refl _))
theorem up_len (r s lo hi : Int) (hs : s = 99 ∨ s = 100) (hr : 0 ≤ r ∧ r < s) (hh : hi ≤ 9899) : (up r s lo (cnt r s hi)).length ≤ 100 := Nat.le_trans (up_length _ _ _ _) (cnt_le hs hr hh)
theorem dm_le (o1 : Bool) (a1 b1 : Int) (o2 : Bool) (a2 b2 d : Int) : dmN o1 a1 b1 o2 a2 b2 d ≤ 10000 := by
  unfold dmN
  split
  · rename_i h
    unfold dmB at h
    simp only [Bool.and_eq_true] at h
    obtain ⟨ga, gb⟩ := rB_yes h.1.1.2
    exact Nat.mul_le_mul (mv_len a1 (sz o1) a2 (sz o2) d (sz_or o2) ga) (mv_len b1 (sz o1) b2 (sz o2) d (sz_or o2) gb)
  · exact Nat.zero_le _
set_option maxRecDepth 100000 in
set_option maxHeartbeats 4000000 in
theorem decodeMoved (o1 : Bool) (a1 b1 : Int) (o2 : Bool) (a2 b2 d : Int) (w : World) :
    Calls Try.prog 14 #[.agg #[.bool o1, .int .i64 a1, .int .i64 b1], .agg #[.bool o2, .int .i64 a2, .int .i64 b2], .int .i64 d] w
      fun e w' => ∃ v, e = .returned (.tuple #[v, .bool (dmB o1 a1 b1 o2 a2 b2 d)]) ∧ w'.ownsRow w.heap.size 25 2 v (dmN o1 a1 b1 o2 a2 b2 d) (cellsI (dmV o1 a1 b1 o2 a2 b2 d)) ∧ Below w.heap.size w w' := by
  have hv := fun (W : World) (b : Nat) (hb : W.heap.size = b) => reports_new o1 a1 b1 o2 a2 b2 W b hb
  have A0 := Lib.hid ((newS 29 #[.bool o1, .int .i64 a1, .int .i64 b1] w).alloc (.cells #[.bool o2, .int .i64 a2, .int .i64 b2] 29))
  have B0 := Lib.hid ((newS 29 #[.bool o1, .int .i64 a1, .int .i64 b1] w).next 29 #[.bool o2, .int .i64 a2, .int .i64 b2])
  rw [World.size_alloc] at B0
  have HZ := Lib.hid (show ((w.alloc (.cells #[.bool o1, .int .i64 a1, .int .i64 b1] 29)).alloc (.cells #[.bool o2, .int .i64 a2, .int .i64 b2] 29)).heap.size = w.heap.size + 1 + 1 by rw [World.size_alloc, World.size_alloc])
  have HB := Lib.hid (show dmB o1 a1 b1 o2 a2 b2 d = ((rB o1 a1 b1 && rB o2 a2 b2) && (o1 != o2) && isIn d 0 3) from rfl)
  cases hq : (rB o1 a1 b1 && rB o2 a2 b2)
  · have HQ := Lib.hid hq
    rw [hq] at hv
    have HV := Lib.hid hv
    clear hv hq
    have HF := Lib.hid (show dmB o1 a1 b1 o2 a2 b2 d = false by rw [HB.out, HQ.out]; rfl)
    have HR := Lib.hid (dm_no HF.out)
    go_enter Try.func14, Try.ntmps14
    go_wp2_with fail
    generalize (w.alloc (.cells #[.bool o1, .int .i64 a1, .int .i64 b1] 29)).alloc (.cells #[.bool o2, .int .i64 a2, .int .i64 b2] 29) = W at *
    refine (HV.out W _ HZ.out).mono ?_
    rintro e w1 ⟨rfl, hb1⟩
    have A1 := Lib.hid (A0.out.old hb1)
    have B1 := Lib.hid (B0.out.old hb1)
    have a_0 : w1.cell? ⟨w.heap.size, 0, none⟩ = some (.bool o1) := A1.out.cell 0
    have b_0 : w1.cell? ⟨w.heap.size + 1, 0, none⟩ = some (.bool o2) := B1.out.cell 0
    clear hb1 A0 B0
    go_wp2_with fail
    go_ret2
    exact ⟨_, by rw [HF.out]; rfl, by rw [HR.out.1, HR.out.2]; exact World.ownsRow_nil _ _ _ _, A1.out.1⟩
  · have HQ := Lib.hid hq
    rw [hq] at hv
    have HV := Lib.hid hv
    clear hv hq
    cases he : (o1 == o2)
    · have HE := Lib.hid (show (o1 != o2) = true by rw [bne, he]; rfl)
      by_cases d0 : d < 0
      · have hd : isIn d 0 3 = false := decide_eq_false (by omega)
        have HF := Lib.hid (show dmB o1 a1 b1 o2 a2 b2 d = false by rw [HB.out, hd]; simp)
        have HR := Lib.hid (dm_no HF.out)
        go_enter Try.func14, Try.ntmps14
        go_wp2_with fail
        generalize (w.alloc (.cells #[.bool o1, .int .i64 a1, .int .i64 b1] 29)).alloc (.cells #[.bool o2, .int .i64 a2, .int .i64 b2] 29) = W at *
        refine (HV.out W _ HZ.out).mono ?_
        rintro e w1 ⟨rfl, hb1⟩
        have A1 := Lib.hid (A0.out.old hb1)
        have B1 := Lib.hid (B0.out.old hb1)
        have a_0 : w1.cell? ⟨w.heap.size, 0, none⟩ = some (.bool o1) := A1.out.cell 0
        have b_0 : w1.cell? ⟨w.heap.size + 1, 0, none⟩ = some (.bool o2) := B1.out.cell 0
        clear hb1 A0 B0
        go_wp2_with fail
        go_ret2
        exact ⟨_, by rw [HF.out]; rfl, by rw [HR.out.1, HR.out.2]; exact World.ownsRow_nil _ _ _ _, A1.out.1⟩
      · by_cases d1 : 3 < d
        · have hd : isIn d 0 3 = false := decide_eq_false (by omega)
          have d2 : decide (d < 0) = false := decide_eq_false d0
          have HF := Lib.hid (show dmB o1 a1 b1 o2 a2 b2 d = false by rw [HB.out, hd]; simp)
          have HR := Lib.hid (dm_no HF.out)
          go_enter Try.func14, Try.ntmps14
          go_wp2_with fail
          generalize (w.alloc (.cells #[.bool o1, .int .i64 a1, .int .i64 b1] 29)).alloc (.cells #[.bool o2, .int .i64 a2, .int .i64 b2] 29) = W at *
          refine (HV.out W _ HZ.out).mono ?_
          rintro e w1 ⟨rfl, hb1⟩
          have A1 := Lib.hid (A0.out.old hb1)
          have B1 := Lib.hid (B0.out.old hb1)
          have a_0 : w1.cell? ⟨w.heap.size, 0, none⟩ = some (.bool o1) := A1.out.cell 0
          have b_0 : w1.cell? ⟨w.heap.size + 1, 0, none⟩ = some (.bool o2) := B1.out.cell 0
          clear hb1 A0 B0
          go_wp2_with fail
          go_ret2
          exact ⟨_, by rw [HF.out]; rfl, by rw [HR.out.1, HR.out.2]; exact World.ownsRow_nil _ _ _ _, A1.out.1⟩
        · have HD := Lib.hid (show isIn d 0 3 = true from decide_eq_true (by omega))
          have d2 : decide (d < 0) = false := decide_eq_false d0
          have d3 : decide (3 < d) = false := decide_eq_false d1
          clear d0 d1
          have sn := sz_pos o1
          have sm := sz_pos o2
          have hq := HQ.out
          rw [Bool.and_eq_true] at hq
          obtain ⟨ga1, gb1⟩ := rB_yes hq.1
          obtain ⟨ga2, gb2⟩ := rB_yes hq.2
          have S1 := Lib.hid (fun w d => aid.quiet_left (posi.sizeOf o1 (World.drewN w d)))
          have S2 := Lib.hid (fun w d => aid.quiet_left (posi.sizeOf o2 (World.drewN w d)))
          have X1 := Lib.hid (fun w => coordinatesWith a2 (sz o2) 0 9899 (sz_or o2) ga2 ⟨by omega, by omega⟩ ⟨by omega, by omega⟩ w)
          have X2 := Lib.hid (fun w => coordinatesWith b2 (sz o2) 0 9899 (sz_or o2) gb2 ⟨by omega, by omega⟩ ⟨by omega, by omega⟩ w)
          have y1 := fun A c w h => nearOnes a1 (sz o1) d (up a2 (sz o2) 0 (cnt a2 (sz o2) 9899)) A _ c (sz_or o1) ga1 (fun x hx => (up_range (sz_or o2) ga2 hx).1) (Nat.le_trans (up_len a2 (sz o2) 0 9899 (sz_or o2) ga2 (by omega)) (by omega)) w h
          have y2 := fun A c w h => nearOnes b1 (sz o1) d (up b2 (sz o2) 0 (cnt b2 (sz o2) 9899)) A _ c (sz_or o1) gb1 (fun x hx => (up_range (sz_or o2) gb2 hx).1) (Nat.le_trans (up_len b2 (sz o2) 0 9899 (sz_or o2) gb2 (by omega)) (by omega)) w h
          rw [nears_mv ga2.1 (by omega)] at y1
          rw [nears_mv gb2.1 (by omega)] at y2
          have lx := mv_len a1 (sz o1) a2 (sz o2) d (sz_or o2) ga2
          have ly := mv_len b1 (sz o1) b2 (sz o2) d (sz_or o2) gb2
          have HR := Lib.hid (show dmN o1 a1 b1 o2 a2 b2 d = (mv a1 (sz o1) a2 (sz o2) d).length * (mv b1 (sz o1) b2 (sz o2) d).length ∧ dmV o1 a1 b1 o2 a2 b2 d = places (mv a1 (sz o1) a2 (sz o2) d) (mv b1 (sz o1) b2 (sz o2) d) from dm_yes (by rw [HB.out, HQ.out, HE.out, HD.out]; rfl))
          have HF := Lib.hid (show dmB o1 a1 b1 o2 a2 b2 d = true by rw [HB.out, HQ.out, HE.out, HD.out]; rfl)
          generalize mv a1 (sz o1) a2 (sz o2) d = X at *
          generalize mv b1 (sz o1) b2 (sz o2) d = Y at *
          generalize up a2 (sz o2) 0 (cnt a2 (sz o2) 9899) = L1 at *
          generalize up b2 (sz o2) 0 (cnt b2 (sz o2) 9899) = L2 at *
          generalize sz o1 = s1 at *
          generalize sz o2 = s2 at *
          have Y1 := Lib.hid y1
          have Y2 := Lib.hid y2
          clear y1 y2 hq ga1 gb1 ga2 gb2 sn sm HQ HB HE HD
          go_enter Try.func14, Try.ntmps14
          go_wp2_with fail
          generalize (w.alloc (.cells #[.bool o1, .int .i64 a1, .int .i64 b1] 29)).alloc (.cells #[.bool o2, .int .i64 a2, .int .i64 b2] 29) = W at *
          refine (HV.out W _ HZ.out).mono ?_
          rintro e w1 ⟨rfl, hb1⟩
          have A1 := Lib.hid (A0.out.old hb1)
          have B1 := Lib.hid (B0.out.old hb1)
          have a_0 : w1.cell? ⟨w.heap.size, 0, none⟩ = some (.bool o1) := A1.out.cell 0
          have b_0 : w1.cell? ⟨w.heap.size + 1, 0, none⟩ = some (.bool o2) := B1.out.cell 0
          clear hb1 A0 B0
          go_upto_region 3 with fail
          go_cut [8, 9] from 32 to 37 (fun p q wz => p = .int .i64 s1 ∧ q = .int .i64 s2 ∧ ∃ j, wz = w1.drewN j)
          case first =>
            go_quiet (first
              | (go_at_call 45; first | (with_reducible exact S1.out _ _) | (with_reducible exact S2.out _ _)))
            go_wp2_with fail
            go_meet
            exact ⟨rfl, rfl, _, rfl⟩
          case rest =>
            obtain ⟨rfl, rfl, j, rfl⟩ := hcut
            have A3 := Lib.hid (A1.out.drewN j)
            have B3 := Lib.hid (B1.out.drewN j)
            clear A1 B1 a_0 b_0 S1 S2
            generalize w1.drewN j = V3 at *
            have CS4 := Lib.hid (show ∀ WZ : World, Below V3.heap.size V3 WZ → WZ.cell? ⟨w.heap.size + 1, 1, none⟩ = some (.int .i64 a2) ∧ WZ.cell? ⟨w.heap.size, 1, none⟩ = some (.int .i64 a1) from fun WZ hz => ⟨(B3.out.old hz).cell 1, (A3.out.old hz).cell 1⟩)
            go_upto_region 4 with fail
            go_cut [10] from 38 to 46 (fun p wz => ∃ Ax cx, p = .slice Ax X.length cx ∧ wz.ownsRow V3.heap.size 3 1 (.slice Ax X.length cx) X.length (cellsI X) ∧ Below V3.heap.size V3 wz)
            case first =>
              go_region_held3 (fun w' => w'.cell? ⟨w.heap.size + 1, 1, none⟩ = some (.int .i64 a2) ∧ w'.cell? ⟨w.heap.size, 1, none⟩ = some (.int .i64 a1)) (first
                | exact CS4.out _ (Below.refl V3.heap.size V3).drew
                | exact CS4.out _ (by assumption)
                | go_keep) (first
                | (go_at_call 56; (with_reducible refine (X1.out _).mono ?_); rintro e w' ⟨v, rfl, ho, hb⟩
                   obtain ⟨Ax, cx, rfl⟩ := own_slice ho
                   have hbl := posx.bl_next (V := V3) (Below.refl V3.heap.size V3).drew hb
                   have hrd := RdI.of_own ho rfl
                   clear ho hb)
                | (go_at_call 55; (with_reducible refine (Y1.out _ _ _ (by assumption)).mono ?_); rintro e w' ⟨v, rfl, ho, hb⟩
                   obtain ⟨Ay, cy, rfl⟩ := own_slice ho
                   have ho2 := own_.own_base ho (Below.size hbl)
                   have hbl2 := posx.bl_next (V := V3) hbl hb
                   clear ho hb))
              all_goals (go_wp2_with fail; go_meet; exact ⟨_, _, rfl, by assumption, by assumption⟩)
            case rest =>
              obtain ⟨Ax, cx, rfl, hox, hb4⟩ := hcut
              have A4 := Lib.hid (A3.out.old hb4)
              have B4 := Lib.hid (B3.out.old hb4)
              have OX := Lib.hid (RdI.of_own hox rfl)
              have HB4 := Lib.hid (A4.out.1)
              clear hox hb4 A3 B3 CS4 X1 Y1
              generalize wc = V4 at *
              have CS5 := Lib.hid (show ∀ WZ : World, Below V4.heap.size V4 WZ → WZ.cell? ⟨w.heap.size + 1, 2, none⟩ = some (.int .i64 b2) ∧ WZ.cell? ⟨w.heap.size, 2, none⟩ = some (.int .i64 b1) from fun WZ hz => ⟨(B4.out.old hz).cell 2, (A4.out.old hz).cell 2⟩)
              go_upto_region 5 with fail
              go_cut [11] from 47 to 55 (fun p wz => ∃ Ax cx, p = .slice Ax Y.length cx ∧ wz.ownsRow V4.heap.size 3 1 (.slice Ax Y.length cx) Y.length (cellsI Y) ∧ Below V4.heap.size V4 wz)
              case first =>
                go_region_held3 (fun w' => w'.cell? ⟨w.heap.size + 1, 2, none⟩ = some (.int .i64 b2) ∧ w'.cell? ⟨w.heap.size, 2, none⟩ = some (.int .i64 b1)) (first
                  | exact CS5.out _ (Below.refl V4.heap.size V4).drew
                  | exact CS5.out _ (by assumption)
                  | go_keep) (first
                  | (go_at_call 56; (with_reducible refine (X2.out _).mono ?_); rintro e w' ⟨v, rfl, ho, hb⟩
                     obtain ⟨Ax, cx, rfl⟩ := own_slice ho
                     have hbl := posx.bl_next (V := V4) (Below.refl V4.heap.size V4).drew hb
                     have hrd := RdI.of_own ho rfl
                     clear ho hb)
                  | (go_at_call 55; (with_reducible refine (Y2.out _ _ _ (by assumption)).mono ?_); rintro e w' ⟨v, rfl, ho, hb⟩
                     obtain ⟨Ay, cy, rfl⟩ := own_slice ho
                     have ho2 := own_.own_base ho (Below.size hbl)
                     have hbl2 := posx.bl_next (V := V4) hbl hb
                     clear ho hb))
                all_goals (go_wp2_with fail; go_meet; exact ⟨_, _, rfl, by assumption, by assumption⟩)
              case rest =>
                obtain ⟨Ay, cy, rfl, hoy, hb5⟩ := hcut
                have A5 := Lib.hid (A4.out.old hb5)
                have PX := Lib.hid (OX.out.next hb5)
                have PY := Lib.hid (RdI.of_own hoy rfl)
                have P := Lib.hid (placesAt X Y Ax Ay X.length cx Y.length cy (by omega) (by omega) wc PX.out PY.out)
                clear hoy hb5 A4 B4 CS5 X2 Y2 OX PX PY
                generalize wc = V5 at *
                go_wp2_with fail
                refine P.out.mono ?_
                rintro e w6 ⟨v, rfl, ho6, hb6⟩
                have HO := Lib.hid (own_.own_base ho6 A5.out.1.size)
                have HX := Lib.hid (A5.out.1.trans (hb6.mono A5.out.1.size))
                clear ho6 hb6
                go_wp2_with fail
                go_ret2
                exact ⟨_, by rw [HF.out]; rfl, by rw [HR.out.1, HR.out.2]; exact HO.out, HX.out⟩
    · have HF := Lib.hid (show dmB o1 a1 b1 o2 a2 b2 d = false by rw [HB.out, bne, he]; simp)
      have HR := Lib.hid (dm_no HF.out)
      go_enter Try.func14, Try.ntmps14
      go_wp2_with fail
      generalize (w.alloc (.cells #[.bool o1, .int .i64 a1, .int .i64 b1] 29)).alloc (.cells #[.bool o2, .int .i64 a2, .int .i64 b2] 29) = W at *
      refine (HV.out W _ HZ.out).mono ?_
      rintro e w1 ⟨rfl, hb1⟩
      have A1 := Lib.hid (A0.out.old hb1)
      have B1 := Lib.hid (B0.out.old hb1)
      have a_0 : w1.cell? ⟨w.heap.size, 0, none⟩ = some (.bool o1) := A1.out.cell 0
      have b_0 : w1.cell? ⟨w.heap.size + 1, 0, none⟩ = some (.bool o2) := B1.out.cell 0
      clear hb1 A0 B0
      go_wp2_with fail
      go_ret2
      exact ⟨_, by rw [HF.out]; rfl, by rw [HR.out.1, HR.out.2]; exact World.ownsRow_nil _ _ _ _, A1.out.1⟩
end Go.Proofs.Ytelkflgmjfmadaa.posq
