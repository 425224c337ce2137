/- spec's DecodeMoved. -/
import Derived.Test.YtelkflgmjfmadaaPosQ
import Derived.Test.YtelkflgmjfmadaaPosS
import Derived.Test.YtelkflgmjfmadaaPosW
import Derived.Deep.AppendLies
import Derived.Deep.CutBlock
namespace Go.Proofs.Ytelkflgmjfmadaa.posy
open Go.RowKit Go.Proofs.Ytelkflgmjfmadaa.pos Go.Proofs.Ytelkflgmjfmadaa.in_ Go.Proofs.Ytelkflgmjfmadaa.posj Go.Proofs.Ytelkflgmjfmadaa.posm Go.Proofs.Ytelkflgmjfmadaa.posq Go.Proofs.Ytelkflgmjfmadaa.poss Go.Proofs.Ytelkflgmjfmadaa.posw Go.Proofs.Ytelkflgmjfmadaa.ats Go.Proofs.Ytelkflgmjfmadaa.ints Go.Proofs.Ytelkflgmjfmadaa.lst


set_option maxRecDepth 100000 in
set_option maxHeartbeats 4000000 in
theorem decodeMoved (o1 : Bool) (a1 b1 : Int) (o2 : Bool) (a2 b2 d : Int) (w : World) :
    Calls Try.prog 16 #[.agg #[.bool o1, .int .i64 a1, .int .i64 b1], .agg #[.bool o2, .int .i64 a2, .int .i64 b2], .int .i64 d] w
      fun e w' => ∃ v, e = .returned (.tuple #[v, .bool (dmB o1 a1 b1 o2 a2 b2 d)]) ∧ w'.ownsRow w.heap.size 25 2 v (dmN o1 a1 b1 o2 a2 b2 d) (cellsI (dmV o1 a1 b1 o2 a2 b2 d)) ∧ Below w.heap.size w w' := by
  have hv := fun W => report7 o1 a1 b1 W
  have hv2 := fun W => report7 o2 a2 b2 W
  have HI := Lib.hid (fun w => l1In d 0 3 w)
  have A0 := Lib.hid (((newS 29 #[.bool o1, .int .i64 a1, .int .i64 b1] w).alloc (.cells #[.bool o2, .int .i64 a2, .int .i64 b2] 29)).alloc (.cells #[] 25))
  have B0 := Lib.hid (((newS 29 #[.bool o1, .int .i64 a1, .int .i64 b1] w).next 29 #[.bool o2, .int .i64 a2, .int .i64 b2]).alloc (.cells #[] 25))
  rw [World.size_alloc] at B0
  have O0 := Lib.hid (own_emptyZ ((w.alloc (.cells #[.bool o1, .int .i64 a1, .int .i64 b1] 29)).alloc (.cells #[.bool o2, .int .i64 a2, .int .i64 b2] 29)) 25 2)
  rw [World.size_alloc, World.size_alloc] at O0
  have HBO := Lib.hid (show w.heap.size ≤ w.heap.size + 1 + 1 by omega)
  have HB := Lib.hid (show dmB o1 a1 b1 o2 a2 b2 d = (((rB o1 a1 b1 && rB o2 a2 b2) && (o1 != o2)) && isIn d 0 3) from rfl)
  cases hq : rB o1 a1 b1
  · have HQ := Lib.hid hq
    rw [hq] at hv
    have HV := Lib.hid hv
    clear hv hq hv2
    have HF := Lib.hid (show dmB o1 a1 b1 o2 a2 b2 d = false by rw [HB.out, HQ.out]; rfl)
    have HR := Lib.hid (dm_no HF.out)
    go_enter Try.func16, Try.ntmps16
    go_wp2_with fail
    generalize ((w.alloc (.cells #[.bool o1, .int .i64 a1, .int .i64 b1] 29)).alloc (.cells #[.bool o2, .int .i64 a2, .int .i64 b2] 29)).alloc (.cells #[] 25) = W at *
    generalize w.heap.size + 1 + 1 = bo at *
    refine (HV.out W).mono ?_
    rintro e w1 ⟨rfl, hb1⟩
    have A1 := Lib.hid (A0.out.old hb1)
    have B1 := Lib.hid (B0.out.old hb1)
    have O1 := Lib.hid (own_.own_below O0.out hb1)
    clear hb1 A0 B0 O0
    have a_0 : w1.cell? ⟨w.heap.size, 0, none⟩ = some (.bool o1) := A1.out.cell 0
    have a_1 : w1.cell? ⟨w.heap.size, 1, none⟩ = some (.int .i64 a1) := A1.out.cell 1
    have a_2 : w1.cell? ⟨w.heap.size, 2, none⟩ = some (.int .i64 b1) := A1.out.cell 2
    have b_0 : w1.cell? ⟨w.heap.size + 1, 0, none⟩ = some (.bool o2) := B1.out.cell 0
    have b_1 : w1.cell? ⟨w.heap.size + 1, 1, none⟩ = some (.int .i64 a2) := B1.out.cell 1
    have b_2 : w1.cell? ⟨w.heap.size + 1, 2, none⟩ = some (.int .i64 b2) := B1.out.cell 2
    go_wp2_with fail
    go_ret2
    exact ⟨_, by rw [HF.out]; rfl, by rw [HR.out.1, HR.out.2]; exact own_.own_base O1.out HBO.out, A1.out.1⟩
  · have HQ := Lib.hid hq
    rw [hq] at hv
    have HV := Lib.hid hv
    clear hv hq
    cases hq : rB o2 a2 b2
    · have HQ2 := Lib.hid hq
      rw [hq] at hv2
      have HV2 := Lib.hid hv2
      clear hv2 hq
      have HF := Lib.hid (show dmB o1 a1 b1 o2 a2 b2 d = false by rw [HB.out, HQ2.out]; simp)
      have HR := Lib.hid (dm_no HF.out)
      go_enter Try.func16, Try.ntmps16
      go_wp2_with fail
      generalize ((w.alloc (.cells #[.bool o1, .int .i64 a1, .int .i64 b1] 29)).alloc (.cells #[.bool o2, .int .i64 a2, .int .i64 b2] 29)).alloc (.cells #[] 25) = W at *
      generalize w.heap.size + 1 + 1 = bo at *
      refine (HV.out W).mono ?_
      rintro e w1 ⟨rfl, hb1⟩
      have A1 := Lib.hid (A0.out.old hb1)
      have B1 := Lib.hid (B0.out.old hb1)
      have O1 := Lib.hid (own_.own_below O0.out hb1)
      clear hb1 A0 B0 O0
      have a_0 : w1.cell? ⟨w.heap.size, 0, none⟩ = some (.bool o1) := A1.out.cell 0
      have a_1 : w1.cell? ⟨w.heap.size, 1, none⟩ = some (.int .i64 a1) := A1.out.cell 1
      have a_2 : w1.cell? ⟨w.heap.size, 2, none⟩ = some (.int .i64 b1) := A1.out.cell 2
      have b_0 : w1.cell? ⟨w.heap.size + 1, 0, none⟩ = some (.bool o2) := B1.out.cell 0
      have b_1 : w1.cell? ⟨w.heap.size + 1, 1, none⟩ = some (.int .i64 a2) := B1.out.cell 1
      have b_2 : w1.cell? ⟨w.heap.size + 1, 2, none⟩ = some (.int .i64 b2) := B1.out.cell 2
      go_wp2_with fail
      refine (HV2.out w1).mono ?_
      rintro e w2 ⟨rfl, hb2⟩
      clear a_0 a_1 a_2 b_0 b_1 b_2
      have A2 := Lib.hid (A1.out.old hb2)
      have B2 := Lib.hid (B1.out.old hb2)
      have O2 := Lib.hid (own_.own_below O1.out hb2)
      clear hb2 A1 B1 O1
      have a_0 : w2.cell? ⟨w.heap.size, 0, none⟩ = some (.bool o1) := A2.out.cell 0
      have a_1 : w2.cell? ⟨w.heap.size, 1, none⟩ = some (.int .i64 a1) := A2.out.cell 1
      have a_2 : w2.cell? ⟨w.heap.size, 2, none⟩ = some (.int .i64 b1) := A2.out.cell 2
      have b_0 : w2.cell? ⟨w.heap.size + 1, 0, none⟩ = some (.bool o2) := B2.out.cell 0
      have b_1 : w2.cell? ⟨w.heap.size + 1, 1, none⟩ = some (.int .i64 a2) := B2.out.cell 1
      have b_2 : w2.cell? ⟨w.heap.size + 1, 2, none⟩ = some (.int .i64 b2) := B2.out.cell 2
      go_wp2_with fail
      go_ret2
      exact ⟨_, by rw [HF.out]; rfl, by rw [HR.out.1, HR.out.2]; exact own_.own_base O2.out HBO.out, A2.out.1⟩
    · have HQ2 := Lib.hid hq
      rw [hq] at hv2
      have HV2 := Lib.hid hv2
      clear hv2 hq
      cases he : (o1 == o2)
      · have HE := Lib.hid (show (o1 != o2) = true by rw [bne, he]; rfl)
        cases hd : isIn d 0 3
        · have hI := HI.out
          rw [hd] at hI
          have HI := Lib.hid hI
          have HD := Lib.hid hd
          clear hI hd
          have HF := Lib.hid (show dmB o1 a1 b1 o2 a2 b2 d = false by rw [HB.out, HD.out]; simp)
          have HR := Lib.hid (dm_no HF.out)
          go_enter Try.func16, Try.ntmps16
          go_wp2_with fail
          generalize ((w.alloc (.cells #[.bool o1, .int .i64 a1, .int .i64 b1] 29)).alloc (.cells #[.bool o2, .int .i64 a2, .int .i64 b2] 29)).alloc (.cells #[] 25) = W at *
          generalize w.heap.size + 1 + 1 = bo at *
          refine (HV.out W).mono ?_
          rintro e w1 ⟨rfl, hb1⟩
          have A1 := Lib.hid (A0.out.old hb1)
          have B1 := Lib.hid (B0.out.old hb1)
          have O1 := Lib.hid (own_.own_below O0.out hb1)
          clear hb1 A0 B0 O0
          have a_0 : w1.cell? ⟨w.heap.size, 0, none⟩ = some (.bool o1) := A1.out.cell 0
          have a_1 : w1.cell? ⟨w.heap.size, 1, none⟩ = some (.int .i64 a1) := A1.out.cell 1
          have a_2 : w1.cell? ⟨w.heap.size, 2, none⟩ = some (.int .i64 b1) := A1.out.cell 2
          have b_0 : w1.cell? ⟨w.heap.size + 1, 0, none⟩ = some (.bool o2) := B1.out.cell 0
          have b_1 : w1.cell? ⟨w.heap.size + 1, 1, none⟩ = some (.int .i64 a2) := B1.out.cell 1
          have b_2 : w1.cell? ⟨w.heap.size + 1, 2, none⟩ = some (.int .i64 b2) := B1.out.cell 2
          go_wp2_with fail
          refine (HV2.out w1).mono ?_
          rintro e w2 ⟨rfl, hb2⟩
          clear a_0 a_1 a_2 b_0 b_1 b_2
          have A2 := Lib.hid (A1.out.old hb2)
          have B2 := Lib.hid (B1.out.old hb2)
          have O2 := Lib.hid (own_.own_below O1.out hb2)
          clear hb2 A1 B1 O1
          have a_0 : w2.cell? ⟨w.heap.size, 0, none⟩ = some (.bool o1) := A2.out.cell 0
          have a_1 : w2.cell? ⟨w.heap.size, 1, none⟩ = some (.int .i64 a1) := A2.out.cell 1
          have a_2 : w2.cell? ⟨w.heap.size, 2, none⟩ = some (.int .i64 b1) := A2.out.cell 2
          have b_0 : w2.cell? ⟨w.heap.size + 1, 0, none⟩ = some (.bool o2) := B2.out.cell 0
          have b_1 : w2.cell? ⟨w.heap.size + 1, 1, none⟩ = some (.int .i64 a2) := B2.out.cell 1
          have b_2 : w2.cell? ⟨w.heap.size + 1, 2, none⟩ = some (.int .i64 b2) := B2.out.cell 2
          go_wp2_with fail
          refine (HI.out _).mono ?_
          rintro e w3 ⟨rfl, rfl⟩
          go_wp2_with fail
          go_ret2
          exact ⟨_, by rw [HF.out]; rfl, by rw [HR.out.1, HR.out.2]; exact own_.own_base O2.out HBO.out, A2.out.1⟩
        · have HD := Lib.hid hd
          clear hd
          obtain ⟨ga1, gb1⟩ := rB_yes HQ.out
          obtain ⟨ga2, gb2⟩ := rB_yes HQ2.out
          have hd := of_decide_eq_true HD.out
          have S1 := Lib.hid (fun w d => aid.quiet_left (size7 o1 (World.drewN w d)))
          have S2 := Lib.hid (fun w d => aid.quiet_left (size7 o2 (World.drewN w d)))
          have X1 := Lib.hid (fun w => moved7 a1 (sz o1) a2 (sz o2) d (sz_or o1) ga1 (sz_or o2) ga2 hd w)
          have X2 := Lib.hid (fun w => moved7 b1 (sz o1) b2 (sz o2) d (sz_or o1) gb1 (sz_or o2) gb2 hd w)
          have lx := mv_len a1 (sz o1) a2 (sz o2) d (sz_or o2) ga2
          have ly := mv_len b1 (sz o1) b2 (sz o2) d (sz_or o2) gb2
          have HR := Lib.hid (show dmN o1 a1 b1 o2 a2 b2 d = (mv a1 (sz o1) a2 (sz o2) d).length * (mv b1 (sz o1) b2 (sz o2) d).length ∧ dmV o1 a1 b1 o2 a2 b2 d = places (mv a1 (sz o1) a2 (sz o2) d) (mv b1 (sz o1) b2 (sz o2) d) from dm_yes (by rw [HB.out, HQ.out, HQ2.out, HE.out, HD.out]; rfl))
          have HF := Lib.hid (show dmB o1 a1 b1 o2 a2 b2 d = true by rw [HB.out, HQ.out, HQ2.out, HE.out, HD.out]; rfl)
          have hI := HI.out
          rw [HD.out] at hI
          have HI := Lib.hid hI
          generalize mv a1 (sz o1) a2 (sz o2) d = X at *
          generalize mv b1 (sz o1) b2 (sz o2) d = Y at *
          generalize sz o1 = s1 at *
          generalize sz o2 = s2 at *
          clear hI ga1 gb1 ga2 gb2 hd HQ HQ2 HB HE HD
          go_enter Try.func16, Try.ntmps16
          go_wp2_with fail
          generalize ((w.alloc (.cells #[.bool o1, .int .i64 a1, .int .i64 b1] 29)).alloc (.cells #[.bool o2, .int .i64 a2, .int .i64 b2] 29)).alloc (.cells #[] 25) = W at *
          generalize w.heap.size + 1 + 1 = bo at *
          refine (HV.out W).mono ?_
          rintro e w1 ⟨rfl, hb1⟩
          have A1 := Lib.hid (A0.out.old hb1)
          have B1 := Lib.hid (B0.out.old hb1)
          have O1 := Lib.hid (own_.own_below O0.out hb1)
          clear hb1 A0 B0 O0
          have a_0 : w1.cell? ⟨w.heap.size, 0, none⟩ = some (.bool o1) := A1.out.cell 0
          have a_1 : w1.cell? ⟨w.heap.size, 1, none⟩ = some (.int .i64 a1) := A1.out.cell 1
          have a_2 : w1.cell? ⟨w.heap.size, 2, none⟩ = some (.int .i64 b1) := A1.out.cell 2
          have b_0 : w1.cell? ⟨w.heap.size + 1, 0, none⟩ = some (.bool o2) := B1.out.cell 0
          have b_1 : w1.cell? ⟨w.heap.size + 1, 1, none⟩ = some (.int .i64 a2) := B1.out.cell 1
          have b_2 : w1.cell? ⟨w.heap.size + 1, 2, none⟩ = some (.int .i64 b2) := B1.out.cell 2
          go_wp2_with fail
          refine (HV2.out w1).mono ?_
          rintro e w2 ⟨rfl, hb2⟩
          clear a_0 a_1 a_2 b_0 b_1 b_2
          have A2 := Lib.hid (A1.out.old hb2)
          have B2 := Lib.hid (B1.out.old hb2)
          have O2 := Lib.hid (own_.own_below O1.out hb2)
          clear hb2 A1 B1 O1
          have a_0 : w2.cell? ⟨w.heap.size, 0, none⟩ = some (.bool o1) := A2.out.cell 0
          have a_1 : w2.cell? ⟨w.heap.size, 1, none⟩ = some (.int .i64 a1) := A2.out.cell 1
          have a_2 : w2.cell? ⟨w.heap.size, 2, none⟩ = some (.int .i64 b1) := A2.out.cell 2
          have b_0 : w2.cell? ⟨w.heap.size + 1, 0, none⟩ = some (.bool o2) := B2.out.cell 0
          have b_1 : w2.cell? ⟨w.heap.size + 1, 1, none⟩ = some (.int .i64 a2) := B2.out.cell 1
          have b_2 : w2.cell? ⟨w.heap.size + 1, 2, none⟩ = some (.int .i64 b2) := B2.out.cell 2
          go_wp2_with fail
          refine (HI.out _).mono ?_
          rintro e w3 ⟨rfl, rfl⟩
          go_upto_region 4 with fail
          go_cut [9, 10] from 37 to 42 (fun p q wz => p = .int .i64 s1 ∧ q = .int .i64 s2 ∧ ∃ j, wz = w2.drewN j)
          case first =>
            go_quiet (first
              | (go_at_call 62; first | (with_reducible exact S1.out _ _) | (with_reducible exact S2.out _ _)))
            go_wp2_with fail
            go_meet
            exact ⟨rfl, rfl, _, rfl⟩
          case rest =>
            obtain ⟨rfl, rfl, j, rfl⟩ := hcut
            have A3 := Lib.hid (A2.out.drewN j)
            have B3 := Lib.hid (B2.out.drewN j)
            have O3 := Lib.hid (own_.own_drewN O2.out j)
            clear A2 B2 O2 a_0 a_1 a_2 b_0 b_1 b_2 S1 S2
            generalize w2.drewN j = V3 at *
            have CS5 := Lib.hid (show ∀ WZ : World, Below V3.heap.size V3 WZ → WZ.cell? ⟨w.heap.size, 1, none⟩ = some (.int .i64 a1) ∧ WZ.cell? ⟨w.heap.size, 2, none⟩ = some (.int .i64 b1) ∧ WZ.cell? ⟨w.heap.size + 1, 1, none⟩ = some (.int .i64 a2) ∧ WZ.cell? ⟨w.heap.size + 1, 2, none⟩ = some (.int .i64 b2) from fun WZ hz => ⟨(A3.out.old hz).cell 1, (A3.out.old hz).cell 2, (B3.out.old hz).cell 1, (B3.out.old hz).cell 2⟩)
            go_upto_region 5 with fail
            go_cut [11, 12] from 43 to 58 (fun p q wz => ∃ Ax cx Ay cy, p = .slice Ax X.length cx ∧ q = .slice Ay Y.length cy ∧ wz.ownsRow V3.heap.size 3 1 (.slice Ax X.length cx) X.length (cellsI X) ∧ wz.ownsRow V3.heap.size 3 1 (.slice Ay Y.length cy) Y.length (cellsI Y) ∧ Below V3.heap.size V3 wz)
            case first =>
              go_region_held3 (fun w' => w'.cell? ⟨w.heap.size, 1, none⟩ = some (.int .i64 a1) ∧ w'.cell? ⟨w.heap.size, 2, none⟩ = some (.int .i64 b1) ∧ w'.cell? ⟨w.heap.size + 1, 1, none⟩ = some (.int .i64 a2) ∧ w'.cell? ⟨w.heap.size + 1, 2, none⟩ = some (.int .i64 b2)) (first
                | exact CS5.out _ (Below.refl V3.heap.size V3).drew
                | exact CS5.out _ (by assumption)
                | go_keep) (first
                | (go_at_call 63; (with_reducible refine (X1.out _).mono ?_); rintro e w' ⟨v, rfl, ho, hb⟩
                   obtain ⟨Ax, cx, rfl⟩ := own_slice ho
                   have hbl := posx.bl_next (V := V3) (Below.refl V3.heap.size V3).drew hb
                   have hox := own_.own_base ho (Below.size (Below.refl V3.heap.size V3).drew)
                   clear ho hb)
                | (go_at_call 63; (with_reducible refine (X2.out _).mono ?_); rintro e w' ⟨v, rfl, ho, hb⟩
                   obtain ⟨Ay, cy, rfl⟩ := own_slice ho
                   have hoy := own_.own_base ho (Below.size hbl)
                   have hox2 := own_.own_below hox hb
                   have hbl2 := posx.bl_next (V := V3) hbl hb
                   clear ho hb))
              all_goals (go_wp2_with fail; go_meet; exact ⟨_, _, _, _, rfl, rfl, by assumption, by assumption, by assumption⟩)
            case rest =>
              obtain ⟨Ax, cx, Ay, cy, rfl, rfl, hox, hoy, hb5⟩ := hcut
              have hboV : bo < V3.heap.size := own_lt O3.out
              have A5 := Lib.hid (A3.out.old hb5)
              have O5 := Lib.hid (own_.own_below O3.out hb5)
              have HX := Lib.hid (RdO.of_own hox rfl)
              have HY := Lib.hid (RdO.of_own hoy rfl)
              have HST := Lib.hid (show St bo wc wc wc bo (.slice (some ⟨bo, 0, none⟩) 0 0) 0 [] from ⟨O5.out, Below.refl _ _, World.grownBy.refl wc _, fun g e => .inl (by injection e with e; exact e.symm)⟩)
              have HB5 := Lib.hid A5.out.1
              have HSZ := Lib.hid hb5.size
              clear A3 B3 O3 CS5 X1 X2 hox hoy hb5 HI HV HV2
              generalize wc = V5 at *
              have HBV := Lib.hid hboV
              have HV5 := Lib.hid (show bo ≤ V5.heap.size from Nat.le_of_lt (Nat.lt_of_lt_of_le hboV HSZ.out))
              have HEY := Lib.hid (show places X (Y.take Y.length) = places X Y by rw [List.take_of_length_le (Nat.le_refl _)])
              have HEX := Lib.hid (fun y => show row y (X.take X.length) = row y X by rw [List.take_of_length_le (Nat.le_refl _)])
              obtain ⟨i0, hi0, hz0, hz1, hz2⟩ := info_parts infoP
              go_wp2_with fail
              go_loopw [8, 13] (fun v i wr => ∃ j : Nat, j ≤ Y.length ∧ i = .int .i64 j ∧ St bo V5 V5 wr bo v (X.length * j) (places X (Y.take j))) (fun _ i _ => Y.length - (intOf i).toNat)
              case atStart => exact ⟨0, Nat.zero_le _, rfl, HST.out⟩
              case round =>
                obtain ⟨j, hj, rfl, hst⟩ := hrel
                by_cases hlt : j < Y.length
                · obtain ⟨gy, y, rfl, _, hyk, hcy⟩ := (HY.out.kept hst.2.2.1 HBV.out).at_ hlt
                  have hlt2 : (j : Int) < (Y.length : Int) := by omega
                  have HS := Lib.hid (places_take (xs := X) hyk)
                  have hnj : X.length * j ≤ 100 * 100 := Nat.mul_le_mul lx (show j ≤ 100 by omega)
                  have HN := Lib.hid (show X.length * (j + 1) = X.length * j + X.length from Nat.mul_succ _ j)
                  have HFy := Lib.hid (HEX.out y)
                  have R0 := Lib.hid (row_nil y)
                  have HYK := Lib.hid hyk
                  generalize places X (Y.take j) = L at *
                  generalize X.length * j = N at *
                  clear hyk hcy
                  go_wp2_with fail
                  go_loopw [8, 14] (fun v i wr => ∃ k : Nat, k ≤ X.length ∧ i = .int .i64 k ∧ St bo V5 V5 wr bo v (N + k) (L ++ row y (X.take k))) (fun _ i _ => X.length - (intOf i).toNat)
                  case atStart => exact ⟨0, Nat.zero_le _, rfl, by rw [List.take_zero, R0.out, List.append_nil]; exact hst⟩
                  case round =>
                    clear hst
                    obtain ⟨k, hk, rfl, hst⟩ := hrel
                    by_cases hlk : k < X.length
                    · obtain ⟨gx, x, rfl, _, hxk, hcx⟩ := (HX.out.kept hst.2.2.1 HBV.out).at_ hlk
                      have hcy := ((HY.out.kept hst.2.2.1 HBV.out).cell hlt HYK.out).1
                      have hlk2 : (k : Int) < (X.length : Int) := by omega
                      have HT := Lib.hid (row_take (y := y) hxk)
                      have HXK := Lib.hid hxk
                      have hBw := Nat.le_trans HV5.out hst.2.2.1.size
                      have HBw := Lib.hid hBw
                      have HSt := Lib.hid hst
                      generalize row y (X.take k) = R at *
                      clear hxk hst hBw
                      go_upto_region 12 with fail
                      go_region_held3 (fun w' => w'.cell? ⟨gx, k, none⟩ = some (.int .i64 x) ∧ w'.cell? ⟨gy, j, none⟩ = some (.int .i64 y)) (first
                        | exact ⟨hcx, hcy⟩
                        | exact ⟨by assumption, by assumption⟩
                        | go_keep) (first
                        | (refine step_append_sz rfl (.tmp 71) (.tmp 81) 35 rfl bo 25 i0 (.agg #[.int .i64 0, .int .i64 0]) 2 16 Try.underlying35 hi0 hz0 hz1 hz2 rfl (by decide) _ (N + k) (cellsI (L ++ R)) rfl (HSt.out.1.alloc _) ⟨wr.heap.size, 0, none⟩ 1 1 [.int .i64 x, .int .i64 y] rfl rfl (cells_new _ _ #[.int .i64 x, .int .i64 y]) (two_cells x y) (by unfold maxLen; omega) (by omega) (Nat.le_trans HBw.out (by show _ ≤ (wr.alloc _).heap.size; rw [World.size_alloc]; omega)) ?_
                           intro v3 w3 ho3 hg3 hb3
                           have hs3 := St.app HSt.out HBw.out ho3 hg3 hb3
                           have k1 := ((HX.out.kept hs3.2.2.1 HBV.out).cell hlk HXK.out).1
                           have k2 := ((HY.out.kept hs3.2.2.1 HBV.out).cell hlt HYK.out).1
                           clear ho3 hg3 hb3))
                      all_goals
                        go_wp2_with fail
                        go_roundw
                        case rel => exact ⟨k + 1, by omega, by go_num, by rw [HT.out, ← List.append_assoc]; assumption⟩
                        case measure => simp [intOf]; omega
                    · obtain rfl : k = X.length := by omega
                      rw [HFy.out] at hst
                      go_wp2_with fail
                      go_roundw
                      case rel => exact ⟨j + 1, by omega, by go_num, by rw [HS.out, HN.out]; exact hst⟩
                      case measure => simp [intOf]; omega
                · obtain rfl : j = Y.length := by omega
                  rw [HEY.out] at hst
                  go_wp2_with fail
                  go_ret2
                  exact ⟨_, by rw [HF.out]; rfl, by rw [HR.out.1, HR.out.2]; exact own_.own_base hst.1 HBO.out, HB5.out.trans (hst.2.1.mono HBO.out)⟩
      · have HF := Lib.hid (show dmB o1 a1 b1 o2 a2 b2 d = false by rw [HB.out, bne, he]; simp)
        have HR := Lib.hid (dm_no HF.out)
        go_enter Try.func16, Try.ntmps16
        go_wp2_with fail
        generalize ((w.alloc (.cells #[.bool o1, .int .i64 a1, .int .i64 b1] 29)).alloc (.cells #[.bool o2, .int .i64 a2, .int .i64 b2] 29)).alloc (.cells #[] 25) = W at *
        generalize w.heap.size + 1 + 1 = bo at *
        refine (HV.out W).mono ?_
        rintro e w1 ⟨rfl, hb1⟩
        have A1 := Lib.hid (A0.out.old hb1)
        have B1 := Lib.hid (B0.out.old hb1)
        have O1 := Lib.hid (own_.own_below O0.out hb1)
        clear hb1 A0 B0 O0
        have a_0 : w1.cell? ⟨w.heap.size, 0, none⟩ = some (.bool o1) := A1.out.cell 0
        have a_1 : w1.cell? ⟨w.heap.size, 1, none⟩ = some (.int .i64 a1) := A1.out.cell 1
        have a_2 : w1.cell? ⟨w.heap.size, 2, none⟩ = some (.int .i64 b1) := A1.out.cell 2
        have b_0 : w1.cell? ⟨w.heap.size + 1, 0, none⟩ = some (.bool o2) := B1.out.cell 0
        have b_1 : w1.cell? ⟨w.heap.size + 1, 1, none⟩ = some (.int .i64 a2) := B1.out.cell 1
        have b_2 : w1.cell? ⟨w.heap.size + 1, 2, none⟩ = some (.int .i64 b2) := B1.out.cell 2
        go_wp2_with fail
        refine (HV2.out w1).mono ?_
        rintro e w2 ⟨rfl, hb2⟩
        clear a_0 a_1 a_2 b_0 b_1 b_2
        have A2 := Lib.hid (A1.out.old hb2)
        have B2 := Lib.hid (B1.out.old hb2)
        have O2 := Lib.hid (own_.own_below O1.out hb2)
        clear hb2 A1 B1 O1
        have a_0 : w2.cell? ⟨w.heap.size, 0, none⟩ = some (.bool o1) := A2.out.cell 0
        have a_1 : w2.cell? ⟨w.heap.size, 1, none⟩ = some (.int .i64 a1) := A2.out.cell 1
        have a_2 : w2.cell? ⟨w.heap.size, 2, none⟩ = some (.int .i64 b1) := A2.out.cell 2
        have b_0 : w2.cell? ⟨w.heap.size + 1, 0, none⟩ = some (.bool o2) := B2.out.cell 0
        have b_1 : w2.cell? ⟨w.heap.size + 1, 1, none⟩ = some (.int .i64 a2) := B2.out.cell 1
        have b_2 : w2.cell? ⟨w.heap.size + 1, 2, none⟩ = some (.int .i64 b2) := B2.out.cell 2
        go_wp2_with fail
        go_ret2
        exact ⟨_, by rw [HF.out]; rfl, by rw [HR.out.1, HR.out.2]; exact own_.own_base O2.out HBO.out, A2.out.1⟩
end Go.Proofs.Ytelkflgmjfmadaa.posy
