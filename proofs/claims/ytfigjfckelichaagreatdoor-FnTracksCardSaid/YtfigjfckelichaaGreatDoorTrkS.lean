/- spec's tracks: l14Good, IsValidTrack, l14List, IsValidTracks, l14Find, l14Hit, l14Miss; l1Rising. -/
import Derived.BigQuiet
import Derived.Deep.QuietTactic
import Derived.Deep.CutRange
import Derived.Test.YtfigjfckelichaaGreatDoorTrkM
import Derived.Test.YtfigjfckelichaaGreatDoorTrkE
import Derived.Test.YtfigjfckelichaaGreatDoorPosS
import Derived.Test.YtfigjfckelichaaGreatDoorIntC
import Derived.Lib.QuietBelow
namespace Go.Proofs.YtfigjfckelichaaGreatDoor.trks
open Go.RowKit Go.Proofs.YtfigjfckelichaaGreatDoor.ints Go.Proofs.YtfigjfckelichaaGreatDoor.lst Go.Proofs.YtfigjfckelichaaGreatDoor.in_ Go.Proofs.YtfigjfckelichaaGreatDoor.ats Go.Proofs.YtfigjfckelichaaGreatDoor.pos Go.Proofs.YtfigjfckelichaaGreatDoor.trk Go.Proofs.YtfigjfckelichaaGreatDoor.trkm Go.Proofs.YtfigjfckelichaaGreatDoor.trke Go.Proofs.YtfigjfckelichaaGreatDoor.intc

set_option maxRecDepth 100000 in
set_option maxHeartbeats 2000000 in
theorem good14 (i s x y h l : Int) (w : World) :
    Calls Tryz.prog 33 #[.agg #[.int .i64 i, .int .i64 s, .int .i64 x, .int .i64 y, .int .i64 h, .int .i64 l]] w fun e w' => e = .returned (.bool (tkB i s x y h l)) ∧ Below w.heap.size w w' := by
  have T0 := Lib.hid (newS 25 #[.int .i64 i, .int .i64 s, .int .i64 x, .int .i64 y, .int .i64 h, .int .i64 l] w)
  have I1 := Lib.hid (fun w => l1In i 1 999 w)
  have I2 := Lib.hid (fun w => poss.good7 x y w)
  have I3 := Lib.hid (fun w => l1In h 1 9999 w)
  have I4 := Lib.hid (fun w => l1In l 1 3 w)
  cases ha : isIn i 1 999
  · have HE := Lib.hid (show tkB i s x y h l = false by unfold tkB; rw [ha]; rfl)
    rw [ha] at I1
    clear ha
    go_enter Tryz.func33, Tryz.ntmps33
    go_upto_region 1 with fail
    generalize w.alloc (.cells #[.int .i64 i, .int .i64 s, .int .i64 x, .int .i64 y, .int .i64 h, .int .i64 l] 25) = W0 at *
    have c0 : W0.cell? ⟨w.heap.size, 0, none⟩ = some (.int .i64 i) := T0.out.cell 0
    have cf0 := T0.out.frozen 0
    have c1 : W0.cell? ⟨w.heap.size, 1, none⟩ = some (.int .i64 s) := T0.out.cell 1
    have cf1 := T0.out.frozen 1
    have c2 : W0.cell? ⟨w.heap.size, 2, none⟩ = some (.int .i64 x) := T0.out.cell 2
    have cf2 := T0.out.frozen 2
    have c3 : W0.cell? ⟨w.heap.size, 3, none⟩ = some (.int .i64 y) := T0.out.cell 3
    have cf3 := T0.out.frozen 3
    have c4 : W0.cell? ⟨w.heap.size, 4, none⟩ = some (.int .i64 h) := T0.out.cell 4
    have cf4 := T0.out.frozen 4
    have c5 : W0.cell? ⟨w.heap.size, 5, none⟩ = some (.int .i64 l) := T0.out.cell 5
    have cf5 := T0.out.frozen 5
    go_wp2_with fail
    refine (I1.out _).mono ?_
    rintro e w' ⟨rfl, hw'⟩
    subst w'
    go_wp2_with fail
    go_ret
    exact ⟨by rw [HE.out]; rfl, T0.out.1⟩
  rw [ha] at I1
  cases hb0 : pB x y
  · have HE := Lib.hid (show tkB i s x y h l = false by unfold tkB; rw [hb0, Bool.false_and, Bool.and_false])
    rw [hb0] at I2
    clear ha hb0
    go_enter Tryz.func33, Tryz.ntmps33
    go_upto_region 1 with fail
    generalize w.alloc (.cells #[.int .i64 i, .int .i64 s, .int .i64 x, .int .i64 y, .int .i64 h, .int .i64 l] 25) = W0 at *
    have c0 : W0.cell? ⟨w.heap.size, 0, none⟩ = some (.int .i64 i) := T0.out.cell 0
    have cf0 := T0.out.frozen 0
    have c1 : W0.cell? ⟨w.heap.size, 1, none⟩ = some (.int .i64 s) := T0.out.cell 1
    have cf1 := T0.out.frozen 1
    have c2 : W0.cell? ⟨w.heap.size, 2, none⟩ = some (.int .i64 x) := T0.out.cell 2
    have cf2 := T0.out.frozen 2
    have c3 : W0.cell? ⟨w.heap.size, 3, none⟩ = some (.int .i64 y) := T0.out.cell 3
    have cf3 := T0.out.frozen 3
    have c4 : W0.cell? ⟨w.heap.size, 4, none⟩ = some (.int .i64 h) := T0.out.cell 4
    have cf4 := T0.out.frozen 4
    have c5 : W0.cell? ⟨w.heap.size, 5, none⟩ = some (.int .i64 l) := T0.out.cell 5
    have cf5 := T0.out.frozen 5
    go_wp2_with fail
    refine (I1.out _).mono ?_
    rintro e w' ⟨rfl, hw'⟩
    subst w'
    go_wp2_with fail
    refine (I2.out _).mono ?_
    rintro e W1 ⟨rfl, hb⟩
    clear c0 cf0 c1 cf1 c2 cf2 c3 cf3 c4 cf4 c5 cf5
    have T1 := Lib.hid (T0.out.old hb)
    clear hb
    have c0 : W1.cell? ⟨w.heap.size, 0, none⟩ = some (.int .i64 i) := T1.out.cell 0
    have cf0 := T1.out.frozen 0
    have c1 : W1.cell? ⟨w.heap.size, 1, none⟩ = some (.int .i64 s) := T1.out.cell 1
    have cf1 := T1.out.frozen 1
    have c2 : W1.cell? ⟨w.heap.size, 2, none⟩ = some (.int .i64 x) := T1.out.cell 2
    have cf2 := T1.out.frozen 2
    have c3 : W1.cell? ⟨w.heap.size, 3, none⟩ = some (.int .i64 y) := T1.out.cell 3
    have cf3 := T1.out.frozen 3
    have c4 : W1.cell? ⟨w.heap.size, 4, none⟩ = some (.int .i64 h) := T1.out.cell 4
    have cf4 := T1.out.frozen 4
    have c5 : W1.cell? ⟨w.heap.size, 5, none⟩ = some (.int .i64 l) := T1.out.cell 5
    have cf5 := T1.out.frozen 5
    go_wp2_with fail
    go_ret
    exact ⟨by rw [HE.out]; rfl, T1.out.1⟩
  rw [hb0] at I2
  cases hc : isIn h 1 9999
  · have HE := Lib.hid (show tkB i s x y h l = false by unfold tkB; rw [hc, Bool.false_and, Bool.and_false, Bool.and_false])
    rw [hc] at I3
    clear ha hb0 hc
    go_enter Tryz.func33, Tryz.ntmps33
    go_upto_region 1 with fail
    generalize w.alloc (.cells #[.int .i64 i, .int .i64 s, .int .i64 x, .int .i64 y, .int .i64 h, .int .i64 l] 25) = W0 at *
    have c0 : W0.cell? ⟨w.heap.size, 0, none⟩ = some (.int .i64 i) := T0.out.cell 0
    have cf0 := T0.out.frozen 0
    have c1 : W0.cell? ⟨w.heap.size, 1, none⟩ = some (.int .i64 s) := T0.out.cell 1
    have cf1 := T0.out.frozen 1
    have c2 : W0.cell? ⟨w.heap.size, 2, none⟩ = some (.int .i64 x) := T0.out.cell 2
    have cf2 := T0.out.frozen 2
    have c3 : W0.cell? ⟨w.heap.size, 3, none⟩ = some (.int .i64 y) := T0.out.cell 3
    have cf3 := T0.out.frozen 3
    have c4 : W0.cell? ⟨w.heap.size, 4, none⟩ = some (.int .i64 h) := T0.out.cell 4
    have cf4 := T0.out.frozen 4
    have c5 : W0.cell? ⟨w.heap.size, 5, none⟩ = some (.int .i64 l) := T0.out.cell 5
    have cf5 := T0.out.frozen 5
    go_wp2_with fail
    refine (I1.out _).mono ?_
    rintro e w' ⟨rfl, hw'⟩
    subst w'
    go_wp2_with fail
    refine (I2.out _).mono ?_
    rintro e W1 ⟨rfl, hb⟩
    clear c0 cf0 c1 cf1 c2 cf2 c3 cf3 c4 cf4 c5 cf5
    have T1 := Lib.hid (T0.out.old hb)
    clear hb
    have c0 : W1.cell? ⟨w.heap.size, 0, none⟩ = some (.int .i64 i) := T1.out.cell 0
    have cf0 := T1.out.frozen 0
    have c1 : W1.cell? ⟨w.heap.size, 1, none⟩ = some (.int .i64 s) := T1.out.cell 1
    have cf1 := T1.out.frozen 1
    have c2 : W1.cell? ⟨w.heap.size, 2, none⟩ = some (.int .i64 x) := T1.out.cell 2
    have cf2 := T1.out.frozen 2
    have c3 : W1.cell? ⟨w.heap.size, 3, none⟩ = some (.int .i64 y) := T1.out.cell 3
    have cf3 := T1.out.frozen 3
    have c4 : W1.cell? ⟨w.heap.size, 4, none⟩ = some (.int .i64 h) := T1.out.cell 4
    have cf4 := T1.out.frozen 4
    have c5 : W1.cell? ⟨w.heap.size, 5, none⟩ = some (.int .i64 l) := T1.out.cell 5
    have cf5 := T1.out.frozen 5
    go_wp2_with fail
    refine (I3.out _).mono ?_
    rintro e w' ⟨rfl, hw'⟩
    subst w'
    go_wp2_with fail
    go_ret
    exact ⟨by rw [HE.out]; rfl, T1.out.1⟩
  rw [hc] at I3
  have HST := tkB_states (s := s) (l := l) ha hb0 hc
  clear ha hb0 hc
  by_cases h1 : s = 1
  · by_cases hh : h ≤ 2
    · by_cases hl : l = 0
      · have HE := Lib.hid (show tkB i s x y h l = true by
          rw [HST]
          rw [Bool.or_eq_true, Bool.or_eq_true, decide_eq_true_eq, decide_eq_true_eq, decide_eq_true_eq]; omega)
        have q1 : (s == 1) = true := beq_iff_eq.mpr (by omega)
        have ql : (l == 0) = true := beq_iff_eq.mpr (by omega)
        clear h1 hl
        clear HST
        go_enter Tryz.func33, Tryz.ntmps33
        go_upto_region 1 with fail
        generalize w.alloc (.cells #[.int .i64 i, .int .i64 s, .int .i64 x, .int .i64 y, .int .i64 h, .int .i64 l] 25) = W0 at *
        have c0 : W0.cell? ⟨w.heap.size, 0, none⟩ = some (.int .i64 i) := T0.out.cell 0
        have cf0 := T0.out.frozen 0
        have c1 : W0.cell? ⟨w.heap.size, 1, none⟩ = some (.int .i64 s) := T0.out.cell 1
        have cf1 := T0.out.frozen 1
        have c2 : W0.cell? ⟨w.heap.size, 2, none⟩ = some (.int .i64 x) := T0.out.cell 2
        have cf2 := T0.out.frozen 2
        have c3 : W0.cell? ⟨w.heap.size, 3, none⟩ = some (.int .i64 y) := T0.out.cell 3
        have cf3 := T0.out.frozen 3
        have c4 : W0.cell? ⟨w.heap.size, 4, none⟩ = some (.int .i64 h) := T0.out.cell 4
        have cf4 := T0.out.frozen 4
        have c5 : W0.cell? ⟨w.heap.size, 5, none⟩ = some (.int .i64 l) := T0.out.cell 5
        have cf5 := T0.out.frozen 5
        go_wp2_with fail
        refine (I1.out _).mono ?_
        rintro e w' ⟨rfl, hw'⟩
        subst w'
        go_wp2_with fail
        refine (I2.out _).mono ?_
        rintro e W1 ⟨rfl, hb⟩
        clear c0 cf0 c1 cf1 c2 cf2 c3 cf3 c4 cf4 c5 cf5
        have T1 := Lib.hid (T0.out.old hb)
        clear hb
        have c0 : W1.cell? ⟨w.heap.size, 0, none⟩ = some (.int .i64 i) := T1.out.cell 0
        have cf0 := T1.out.frozen 0
        have c1 : W1.cell? ⟨w.heap.size, 1, none⟩ = some (.int .i64 s) := T1.out.cell 1
        have cf1 := T1.out.frozen 1
        have c2 : W1.cell? ⟨w.heap.size, 2, none⟩ = some (.int .i64 x) := T1.out.cell 2
        have cf2 := T1.out.frozen 2
        have c3 : W1.cell? ⟨w.heap.size, 3, none⟩ = some (.int .i64 y) := T1.out.cell 3
        have cf3 := T1.out.frozen 3
        have c4 : W1.cell? ⟨w.heap.size, 4, none⟩ = some (.int .i64 h) := T1.out.cell 4
        have cf4 := T1.out.frozen 4
        have c5 : W1.cell? ⟨w.heap.size, 5, none⟩ = some (.int .i64 l) := T1.out.cell 5
        have cf5 := T1.out.frozen 5
        go_wp2_with fail
        refine (I3.out _).mono ?_
        rintro e w' ⟨rfl, hw'⟩
        subst w'
        go_wp2_with fail
        go_ret
        exact ⟨by rw [HE.out]; rfl, T1.out.1⟩
      · have HE := Lib.hid (show tkB i s x y h l = false by
          rw [HST]
          rw [decide_eq_false (by omega), decide_eq_false (by omega), decide_eq_false (by omega)]; rfl)
        have q1 : (s == 1) = true := beq_iff_eq.mpr (by omega)
        have ql : (l == 0) = false := beq_eq_false_iff_ne.mpr (by omega)
        clear h1 hl
        clear HST
        go_enter Tryz.func33, Tryz.ntmps33
        go_upto_region 1 with fail
        generalize w.alloc (.cells #[.int .i64 i, .int .i64 s, .int .i64 x, .int .i64 y, .int .i64 h, .int .i64 l] 25) = W0 at *
        have c0 : W0.cell? ⟨w.heap.size, 0, none⟩ = some (.int .i64 i) := T0.out.cell 0
        have cf0 := T0.out.frozen 0
        have c1 : W0.cell? ⟨w.heap.size, 1, none⟩ = some (.int .i64 s) := T0.out.cell 1
        have cf1 := T0.out.frozen 1
        have c2 : W0.cell? ⟨w.heap.size, 2, none⟩ = some (.int .i64 x) := T0.out.cell 2
        have cf2 := T0.out.frozen 2
        have c3 : W0.cell? ⟨w.heap.size, 3, none⟩ = some (.int .i64 y) := T0.out.cell 3
        have cf3 := T0.out.frozen 3
        have c4 : W0.cell? ⟨w.heap.size, 4, none⟩ = some (.int .i64 h) := T0.out.cell 4
        have cf4 := T0.out.frozen 4
        have c5 : W0.cell? ⟨w.heap.size, 5, none⟩ = some (.int .i64 l) := T0.out.cell 5
        have cf5 := T0.out.frozen 5
        go_wp2_with fail
        refine (I1.out _).mono ?_
        rintro e w' ⟨rfl, hw'⟩
        subst w'
        go_wp2_with fail
        refine (I2.out _).mono ?_
        rintro e W1 ⟨rfl, hb⟩
        clear c0 cf0 c1 cf1 c2 cf2 c3 cf3 c4 cf4 c5 cf5
        have T1 := Lib.hid (T0.out.old hb)
        clear hb
        have c0 : W1.cell? ⟨w.heap.size, 0, none⟩ = some (.int .i64 i) := T1.out.cell 0
        have cf0 := T1.out.frozen 0
        have c1 : W1.cell? ⟨w.heap.size, 1, none⟩ = some (.int .i64 s) := T1.out.cell 1
        have cf1 := T1.out.frozen 1
        have c2 : W1.cell? ⟨w.heap.size, 2, none⟩ = some (.int .i64 x) := T1.out.cell 2
        have cf2 := T1.out.frozen 2
        have c3 : W1.cell? ⟨w.heap.size, 3, none⟩ = some (.int .i64 y) := T1.out.cell 3
        have cf3 := T1.out.frozen 3
        have c4 : W1.cell? ⟨w.heap.size, 4, none⟩ = some (.int .i64 h) := T1.out.cell 4
        have cf4 := T1.out.frozen 4
        have c5 : W1.cell? ⟨w.heap.size, 5, none⟩ = some (.int .i64 l) := T1.out.cell 5
        have cf5 := T1.out.frozen 5
        go_wp2_with fail
        refine (I3.out _).mono ?_
        rintro e w' ⟨rfl, hw'⟩
        subst w'
        go_wp2_with fail
        go_ret
        exact ⟨by rw [HE.out]; rfl, T1.out.1⟩
    · have HE := Lib.hid (show tkB i s x y h l = false by
        rw [HST]
        rw [decide_eq_false (by omega), decide_eq_false (by omega), decide_eq_false (by omega)]; rfl)
      have q1 : (s == 1) = true := beq_iff_eq.mpr (by omega)
      clear h1
      clear HST
      go_enter Tryz.func33, Tryz.ntmps33
      go_upto_region 1 with fail
      generalize w.alloc (.cells #[.int .i64 i, .int .i64 s, .int .i64 x, .int .i64 y, .int .i64 h, .int .i64 l] 25) = W0 at *
      have c0 : W0.cell? ⟨w.heap.size, 0, none⟩ = some (.int .i64 i) := T0.out.cell 0
      have cf0 := T0.out.frozen 0
      have c1 : W0.cell? ⟨w.heap.size, 1, none⟩ = some (.int .i64 s) := T0.out.cell 1
      have cf1 := T0.out.frozen 1
      have c2 : W0.cell? ⟨w.heap.size, 2, none⟩ = some (.int .i64 x) := T0.out.cell 2
      have cf2 := T0.out.frozen 2
      have c3 : W0.cell? ⟨w.heap.size, 3, none⟩ = some (.int .i64 y) := T0.out.cell 3
      have cf3 := T0.out.frozen 3
      have c4 : W0.cell? ⟨w.heap.size, 4, none⟩ = some (.int .i64 h) := T0.out.cell 4
      have cf4 := T0.out.frozen 4
      have c5 : W0.cell? ⟨w.heap.size, 5, none⟩ = some (.int .i64 l) := T0.out.cell 5
      have cf5 := T0.out.frozen 5
      go_wp2_with fail
      refine (I1.out _).mono ?_
      rintro e w' ⟨rfl, hw'⟩
      subst w'
      go_wp2_with fail
      refine (I2.out _).mono ?_
      rintro e W1 ⟨rfl, hb⟩
      clear c0 cf0 c1 cf1 c2 cf2 c3 cf3 c4 cf4 c5 cf5
      have T1 := Lib.hid (T0.out.old hb)
      clear hb
      have c0 : W1.cell? ⟨w.heap.size, 0, none⟩ = some (.int .i64 i) := T1.out.cell 0
      have cf0 := T1.out.frozen 0
      have c1 : W1.cell? ⟨w.heap.size, 1, none⟩ = some (.int .i64 s) := T1.out.cell 1
      have cf1 := T1.out.frozen 1
      have c2 : W1.cell? ⟨w.heap.size, 2, none⟩ = some (.int .i64 x) := T1.out.cell 2
      have cf2 := T1.out.frozen 2
      have c3 : W1.cell? ⟨w.heap.size, 3, none⟩ = some (.int .i64 y) := T1.out.cell 3
      have cf3 := T1.out.frozen 3
      have c4 : W1.cell? ⟨w.heap.size, 4, none⟩ = some (.int .i64 h) := T1.out.cell 4
      have cf4 := T1.out.frozen 4
      have c5 : W1.cell? ⟨w.heap.size, 5, none⟩ = some (.int .i64 l) := T1.out.cell 5
      have cf5 := T1.out.frozen 5
      go_wp2_with fail
      refine (I3.out _).mono ?_
      rintro e w' ⟨rfl, hw'⟩
      subst w'
      go_wp2_with fail
      go_ret
      exact ⟨by rw [HE.out]; rfl, T1.out.1⟩
  by_cases h2 : s = 2
  · by_cases hh : 3 ≤ h
    · by_cases hl : l = 0
      · have HE := Lib.hid (show tkB i s x y h l = true by
          rw [HST]
          rw [Bool.or_eq_true, Bool.or_eq_true, decide_eq_true_eq, decide_eq_true_eq, decide_eq_true_eq]; omega)
        have q1 : (s == 1) = false := beq_eq_false_iff_ne.mpr (by omega)
        have q2 : (s == 2) = true := beq_iff_eq.mpr (by omega)
        have ql : (l == 0) = true := beq_iff_eq.mpr (by omega)
        clear h1 h2 hl
        clear HST
        go_enter Tryz.func33, Tryz.ntmps33
        go_upto_region 1 with fail
        generalize w.alloc (.cells #[.int .i64 i, .int .i64 s, .int .i64 x, .int .i64 y, .int .i64 h, .int .i64 l] 25) = W0 at *
        have c0 : W0.cell? ⟨w.heap.size, 0, none⟩ = some (.int .i64 i) := T0.out.cell 0
        have cf0 := T0.out.frozen 0
        have c1 : W0.cell? ⟨w.heap.size, 1, none⟩ = some (.int .i64 s) := T0.out.cell 1
        have cf1 := T0.out.frozen 1
        have c2 : W0.cell? ⟨w.heap.size, 2, none⟩ = some (.int .i64 x) := T0.out.cell 2
        have cf2 := T0.out.frozen 2
        have c3 : W0.cell? ⟨w.heap.size, 3, none⟩ = some (.int .i64 y) := T0.out.cell 3
        have cf3 := T0.out.frozen 3
        have c4 : W0.cell? ⟨w.heap.size, 4, none⟩ = some (.int .i64 h) := T0.out.cell 4
        have cf4 := T0.out.frozen 4
        have c5 : W0.cell? ⟨w.heap.size, 5, none⟩ = some (.int .i64 l) := T0.out.cell 5
        have cf5 := T0.out.frozen 5
        go_wp2_with fail
        refine (I1.out _).mono ?_
        rintro e w' ⟨rfl, hw'⟩
        subst w'
        go_wp2_with fail
        refine (I2.out _).mono ?_
        rintro e W1 ⟨rfl, hb⟩
        clear c0 cf0 c1 cf1 c2 cf2 c3 cf3 c4 cf4 c5 cf5
        have T1 := Lib.hid (T0.out.old hb)
        clear hb
        have c0 : W1.cell? ⟨w.heap.size, 0, none⟩ = some (.int .i64 i) := T1.out.cell 0
        have cf0 := T1.out.frozen 0
        have c1 : W1.cell? ⟨w.heap.size, 1, none⟩ = some (.int .i64 s) := T1.out.cell 1
        have cf1 := T1.out.frozen 1
        have c2 : W1.cell? ⟨w.heap.size, 2, none⟩ = some (.int .i64 x) := T1.out.cell 2
        have cf2 := T1.out.frozen 2
        have c3 : W1.cell? ⟨w.heap.size, 3, none⟩ = some (.int .i64 y) := T1.out.cell 3
        have cf3 := T1.out.frozen 3
        have c4 : W1.cell? ⟨w.heap.size, 4, none⟩ = some (.int .i64 h) := T1.out.cell 4
        have cf4 := T1.out.frozen 4
        have c5 : W1.cell? ⟨w.heap.size, 5, none⟩ = some (.int .i64 l) := T1.out.cell 5
        have cf5 := T1.out.frozen 5
        go_wp2_with fail
        refine (I3.out _).mono ?_
        rintro e w' ⟨rfl, hw'⟩
        subst w'
        go_wp2_with fail
        go_ret
        exact ⟨by rw [HE.out]; rfl, T1.out.1⟩
      · have HE := Lib.hid (show tkB i s x y h l = false by
          rw [HST]
          rw [decide_eq_false (by omega), decide_eq_false (by omega), decide_eq_false (by omega)]; rfl)
        have q1 : (s == 1) = false := beq_eq_false_iff_ne.mpr (by omega)
        have q2 : (s == 2) = true := beq_iff_eq.mpr (by omega)
        have ql : (l == 0) = false := beq_eq_false_iff_ne.mpr (by omega)
        clear h1 h2 hl
        clear HST
        go_enter Tryz.func33, Tryz.ntmps33
        go_upto_region 1 with fail
        generalize w.alloc (.cells #[.int .i64 i, .int .i64 s, .int .i64 x, .int .i64 y, .int .i64 h, .int .i64 l] 25) = W0 at *
        have c0 : W0.cell? ⟨w.heap.size, 0, none⟩ = some (.int .i64 i) := T0.out.cell 0
        have cf0 := T0.out.frozen 0
        have c1 : W0.cell? ⟨w.heap.size, 1, none⟩ = some (.int .i64 s) := T0.out.cell 1
        have cf1 := T0.out.frozen 1
        have c2 : W0.cell? ⟨w.heap.size, 2, none⟩ = some (.int .i64 x) := T0.out.cell 2
        have cf2 := T0.out.frozen 2
        have c3 : W0.cell? ⟨w.heap.size, 3, none⟩ = some (.int .i64 y) := T0.out.cell 3
        have cf3 := T0.out.frozen 3
        have c4 : W0.cell? ⟨w.heap.size, 4, none⟩ = some (.int .i64 h) := T0.out.cell 4
        have cf4 := T0.out.frozen 4
        have c5 : W0.cell? ⟨w.heap.size, 5, none⟩ = some (.int .i64 l) := T0.out.cell 5
        have cf5 := T0.out.frozen 5
        go_wp2_with fail
        refine (I1.out _).mono ?_
        rintro e w' ⟨rfl, hw'⟩
        subst w'
        go_wp2_with fail
        refine (I2.out _).mono ?_
        rintro e W1 ⟨rfl, hb⟩
        clear c0 cf0 c1 cf1 c2 cf2 c3 cf3 c4 cf4 c5 cf5
        have T1 := Lib.hid (T0.out.old hb)
        clear hb
        have c0 : W1.cell? ⟨w.heap.size, 0, none⟩ = some (.int .i64 i) := T1.out.cell 0
        have cf0 := T1.out.frozen 0
        have c1 : W1.cell? ⟨w.heap.size, 1, none⟩ = some (.int .i64 s) := T1.out.cell 1
        have cf1 := T1.out.frozen 1
        have c2 : W1.cell? ⟨w.heap.size, 2, none⟩ = some (.int .i64 x) := T1.out.cell 2
        have cf2 := T1.out.frozen 2
        have c3 : W1.cell? ⟨w.heap.size, 3, none⟩ = some (.int .i64 y) := T1.out.cell 3
        have cf3 := T1.out.frozen 3
        have c4 : W1.cell? ⟨w.heap.size, 4, none⟩ = some (.int .i64 h) := T1.out.cell 4
        have cf4 := T1.out.frozen 4
        have c5 : W1.cell? ⟨w.heap.size, 5, none⟩ = some (.int .i64 l) := T1.out.cell 5
        have cf5 := T1.out.frozen 5
        go_wp2_with fail
        refine (I3.out _).mono ?_
        rintro e w' ⟨rfl, hw'⟩
        subst w'
        go_wp2_with fail
        go_ret
        exact ⟨by rw [HE.out]; rfl, T1.out.1⟩
    · have HE := Lib.hid (show tkB i s x y h l = false by
        rw [HST]
        rw [decide_eq_false (by omega), decide_eq_false (by omega), decide_eq_false (by omega)]; rfl)
      have q1 : (s == 1) = false := beq_eq_false_iff_ne.mpr (by omega)
      have q2 : (s == 2) = true := beq_iff_eq.mpr (by omega)
      have gh : decide (3 ≤ h) = false := decide_eq_false hh
      clear h1 h2
      clear HST
      go_enter Tryz.func33, Tryz.ntmps33
      go_upto_region 1 with fail
      generalize w.alloc (.cells #[.int .i64 i, .int .i64 s, .int .i64 x, .int .i64 y, .int .i64 h, .int .i64 l] 25) = W0 at *
      have c0 : W0.cell? ⟨w.heap.size, 0, none⟩ = some (.int .i64 i) := T0.out.cell 0
      have cf0 := T0.out.frozen 0
      have c1 : W0.cell? ⟨w.heap.size, 1, none⟩ = some (.int .i64 s) := T0.out.cell 1
      have cf1 := T0.out.frozen 1
      have c2 : W0.cell? ⟨w.heap.size, 2, none⟩ = some (.int .i64 x) := T0.out.cell 2
      have cf2 := T0.out.frozen 2
      have c3 : W0.cell? ⟨w.heap.size, 3, none⟩ = some (.int .i64 y) := T0.out.cell 3
      have cf3 := T0.out.frozen 3
      have c4 : W0.cell? ⟨w.heap.size, 4, none⟩ = some (.int .i64 h) := T0.out.cell 4
      have cf4 := T0.out.frozen 4
      have c5 : W0.cell? ⟨w.heap.size, 5, none⟩ = some (.int .i64 l) := T0.out.cell 5
      have cf5 := T0.out.frozen 5
      go_wp2_with fail
      refine (I1.out _).mono ?_
      rintro e w' ⟨rfl, hw'⟩
      subst w'
      go_wp2_with fail
      refine (I2.out _).mono ?_
      rintro e W1 ⟨rfl, hb⟩
      clear c0 cf0 c1 cf1 c2 cf2 c3 cf3 c4 cf4 c5 cf5
      have T1 := Lib.hid (T0.out.old hb)
      clear hb
      have c0 : W1.cell? ⟨w.heap.size, 0, none⟩ = some (.int .i64 i) := T1.out.cell 0
      have cf0 := T1.out.frozen 0
      have c1 : W1.cell? ⟨w.heap.size, 1, none⟩ = some (.int .i64 s) := T1.out.cell 1
      have cf1 := T1.out.frozen 1
      have c2 : W1.cell? ⟨w.heap.size, 2, none⟩ = some (.int .i64 x) := T1.out.cell 2
      have cf2 := T1.out.frozen 2
      have c3 : W1.cell? ⟨w.heap.size, 3, none⟩ = some (.int .i64 y) := T1.out.cell 3
      have cf3 := T1.out.frozen 3
      have c4 : W1.cell? ⟨w.heap.size, 4, none⟩ = some (.int .i64 h) := T1.out.cell 4
      have cf4 := T1.out.frozen 4
      have c5 : W1.cell? ⟨w.heap.size, 5, none⟩ = some (.int .i64 l) := T1.out.cell 5
      have cf5 := T1.out.frozen 5
      go_wp2_with fail
      refine (I3.out _).mono ?_
      rintro e w' ⟨rfl, hw'⟩
      subst w'
      go_wp2_with fail
      go_ret
      exact ⟨by rw [HE.out]; rfl, T1.out.1⟩
  by_cases h3 : s = 3
  · by_cases hh : 3 ≤ h
    · have HEL := Lib.hid (show tkB i s x y h l = isIn l 1 3 by
        rw [HST, decide_eq_false (show ¬ (s = 1 ∧ h ≤ 2 ∧ l = 0) by omega), decide_eq_false (show ¬ (s = 2 ∧ 3 ≤ h ∧ l = 0) by omega), Bool.false_or, Bool.false_or]
        unfold isIn
        by_cases hq : 1 ≤ l ∧ l ≤ 3
        · rw [decide_eq_true hq, decide_eq_true ⟨h3, hh, hq⟩]
        · rw [decide_eq_false hq, decide_eq_false (fun hx => hq hx.2.2)])
      have q1 : (s == 1) = false := beq_eq_false_iff_ne.mpr (by omega)
      have q2 : (s == 2) = false := beq_eq_false_iff_ne.mpr (by omega)
      have q3 : (s == 3) = true := beq_iff_eq.mpr (by omega)
      clear h1 h2 h3 HST
      go_enter Tryz.func33, Tryz.ntmps33
      go_upto_region 1 with fail
      generalize w.alloc (.cells #[.int .i64 i, .int .i64 s, .int .i64 x, .int .i64 y, .int .i64 h, .int .i64 l] 25) = W0 at *
      have c0 : W0.cell? ⟨w.heap.size, 0, none⟩ = some (.int .i64 i) := T0.out.cell 0
      have cf0 := T0.out.frozen 0
      have c1 : W0.cell? ⟨w.heap.size, 1, none⟩ = some (.int .i64 s) := T0.out.cell 1
      have cf1 := T0.out.frozen 1
      have c2 : W0.cell? ⟨w.heap.size, 2, none⟩ = some (.int .i64 x) := T0.out.cell 2
      have cf2 := T0.out.frozen 2
      have c3 : W0.cell? ⟨w.heap.size, 3, none⟩ = some (.int .i64 y) := T0.out.cell 3
      have cf3 := T0.out.frozen 3
      have c4 : W0.cell? ⟨w.heap.size, 4, none⟩ = some (.int .i64 h) := T0.out.cell 4
      have cf4 := T0.out.frozen 4
      have c5 : W0.cell? ⟨w.heap.size, 5, none⟩ = some (.int .i64 l) := T0.out.cell 5
      have cf5 := T0.out.frozen 5
      go_wp2_with fail
      refine (I1.out _).mono ?_
      rintro e w' ⟨rfl, hw'⟩
      subst w'
      go_wp2_with fail
      refine (I2.out _).mono ?_
      rintro e W1 ⟨rfl, hb⟩
      clear c0 cf0 c1 cf1 c2 cf2 c3 cf3 c4 cf4 c5 cf5
      have T1 := Lib.hid (T0.out.old hb)
      clear hb
      have c0 : W1.cell? ⟨w.heap.size, 0, none⟩ = some (.int .i64 i) := T1.out.cell 0
      have cf0 := T1.out.frozen 0
      have c1 : W1.cell? ⟨w.heap.size, 1, none⟩ = some (.int .i64 s) := T1.out.cell 1
      have cf1 := T1.out.frozen 1
      have c2 : W1.cell? ⟨w.heap.size, 2, none⟩ = some (.int .i64 x) := T1.out.cell 2
      have cf2 := T1.out.frozen 2
      have c3 : W1.cell? ⟨w.heap.size, 3, none⟩ = some (.int .i64 y) := T1.out.cell 3
      have cf3 := T1.out.frozen 3
      have c4 : W1.cell? ⟨w.heap.size, 4, none⟩ = some (.int .i64 h) := T1.out.cell 4
      have cf4 := T1.out.frozen 4
      have c5 : W1.cell? ⟨w.heap.size, 5, none⟩ = some (.int .i64 l) := T1.out.cell 5
      have cf5 := T1.out.frozen 5
      go_wp2_with fail
      refine (I3.out _).mono ?_
      rintro e w' ⟨rfl, hw'⟩
      subst w'
      go_wp2_with fail
      refine (I4.out _).mono ?_
      rintro e w' ⟨rfl, hw'⟩
      subst w'
      go_wp2_with fail
      go_ret
      exact ⟨by rw [HEL.out]; rfl, T1.out.1⟩
    · have HE := Lib.hid (show tkB i s x y h l = false by
        rw [HST]
        rw [decide_eq_false (by omega), decide_eq_false (by omega), decide_eq_false (by omega)]; rfl)
      have q1 : (s == 1) = false := beq_eq_false_iff_ne.mpr (by omega)
      have q2 : (s == 2) = false := beq_eq_false_iff_ne.mpr (by omega)
      have q3 : (s == 3) = true := beq_iff_eq.mpr (by omega)
      have gh : decide (3 ≤ h) = false := decide_eq_false hh
      clear h1 h2 h3
      clear HST
      go_enter Tryz.func33, Tryz.ntmps33
      go_upto_region 1 with fail
      generalize w.alloc (.cells #[.int .i64 i, .int .i64 s, .int .i64 x, .int .i64 y, .int .i64 h, .int .i64 l] 25) = W0 at *
      have c0 : W0.cell? ⟨w.heap.size, 0, none⟩ = some (.int .i64 i) := T0.out.cell 0
      have cf0 := T0.out.frozen 0
      have c1 : W0.cell? ⟨w.heap.size, 1, none⟩ = some (.int .i64 s) := T0.out.cell 1
      have cf1 := T0.out.frozen 1
      have c2 : W0.cell? ⟨w.heap.size, 2, none⟩ = some (.int .i64 x) := T0.out.cell 2
      have cf2 := T0.out.frozen 2
      have c3 : W0.cell? ⟨w.heap.size, 3, none⟩ = some (.int .i64 y) := T0.out.cell 3
      have cf3 := T0.out.frozen 3
      have c4 : W0.cell? ⟨w.heap.size, 4, none⟩ = some (.int .i64 h) := T0.out.cell 4
      have cf4 := T0.out.frozen 4
      have c5 : W0.cell? ⟨w.heap.size, 5, none⟩ = some (.int .i64 l) := T0.out.cell 5
      have cf5 := T0.out.frozen 5
      go_wp2_with fail
      refine (I1.out _).mono ?_
      rintro e w' ⟨rfl, hw'⟩
      subst w'
      go_wp2_with fail
      refine (I2.out _).mono ?_
      rintro e W1 ⟨rfl, hb⟩
      clear c0 cf0 c1 cf1 c2 cf2 c3 cf3 c4 cf4 c5 cf5
      have T1 := Lib.hid (T0.out.old hb)
      clear hb
      have c0 : W1.cell? ⟨w.heap.size, 0, none⟩ = some (.int .i64 i) := T1.out.cell 0
      have cf0 := T1.out.frozen 0
      have c1 : W1.cell? ⟨w.heap.size, 1, none⟩ = some (.int .i64 s) := T1.out.cell 1
      have cf1 := T1.out.frozen 1
      have c2 : W1.cell? ⟨w.heap.size, 2, none⟩ = some (.int .i64 x) := T1.out.cell 2
      have cf2 := T1.out.frozen 2
      have c3 : W1.cell? ⟨w.heap.size, 3, none⟩ = some (.int .i64 y) := T1.out.cell 3
      have cf3 := T1.out.frozen 3
      have c4 : W1.cell? ⟨w.heap.size, 4, none⟩ = some (.int .i64 h) := T1.out.cell 4
      have cf4 := T1.out.frozen 4
      have c5 : W1.cell? ⟨w.heap.size, 5, none⟩ = some (.int .i64 l) := T1.out.cell 5
      have cf5 := T1.out.frozen 5
      go_wp2_with fail
      refine (I3.out _).mono ?_
      rintro e w' ⟨rfl, hw'⟩
      subst w'
      go_wp2_with fail
      go_ret
      exact ⟨by rw [HE.out]; rfl, T1.out.1⟩
  have HE := Lib.hid (show tkB i s x y h l = false by
    rw [HST]
    rw [decide_eq_false (by omega), decide_eq_false (by omega), decide_eq_false (by omega)]; rfl)
  have q1 : (s == 1) = false := beq_eq_false_iff_ne.mpr (by omega)
  have q2 : (s == 2) = false := beq_eq_false_iff_ne.mpr (by omega)
  have q3 : (s == 3) = false := beq_eq_false_iff_ne.mpr (by omega)
  clear h1 h2 h3
  clear HST
  go_enter Tryz.func33, Tryz.ntmps33
  go_upto_region 1 with fail
  generalize w.alloc (.cells #[.int .i64 i, .int .i64 s, .int .i64 x, .int .i64 y, .int .i64 h, .int .i64 l] 25) = W0 at *
  have c0 : W0.cell? ⟨w.heap.size, 0, none⟩ = some (.int .i64 i) := T0.out.cell 0
  have cf0 := T0.out.frozen 0
  have c1 : W0.cell? ⟨w.heap.size, 1, none⟩ = some (.int .i64 s) := T0.out.cell 1
  have cf1 := T0.out.frozen 1
  have c2 : W0.cell? ⟨w.heap.size, 2, none⟩ = some (.int .i64 x) := T0.out.cell 2
  have cf2 := T0.out.frozen 2
  have c3 : W0.cell? ⟨w.heap.size, 3, none⟩ = some (.int .i64 y) := T0.out.cell 3
  have cf3 := T0.out.frozen 3
  have c4 : W0.cell? ⟨w.heap.size, 4, none⟩ = some (.int .i64 h) := T0.out.cell 4
  have cf4 := T0.out.frozen 4
  have c5 : W0.cell? ⟨w.heap.size, 5, none⟩ = some (.int .i64 l) := T0.out.cell 5
  have cf5 := T0.out.frozen 5
  go_wp2_with fail
  refine (I1.out _).mono ?_
  rintro e w' ⟨rfl, hw'⟩
  subst w'
  go_wp2_with fail
  refine (I2.out _).mono ?_
  rintro e W1 ⟨rfl, hb⟩
  clear c0 cf0 c1 cf1 c2 cf2 c3 cf3 c4 cf4 c5 cf5
  have T1 := Lib.hid (T0.out.old hb)
  clear hb
  have c0 : W1.cell? ⟨w.heap.size, 0, none⟩ = some (.int .i64 i) := T1.out.cell 0
  have cf0 := T1.out.frozen 0
  have c1 : W1.cell? ⟨w.heap.size, 1, none⟩ = some (.int .i64 s) := T1.out.cell 1
  have cf1 := T1.out.frozen 1
  have c2 : W1.cell? ⟨w.heap.size, 2, none⟩ = some (.int .i64 x) := T1.out.cell 2
  have cf2 := T1.out.frozen 2
  have c3 : W1.cell? ⟨w.heap.size, 3, none⟩ = some (.int .i64 y) := T1.out.cell 3
  have cf3 := T1.out.frozen 3
  have c4 : W1.cell? ⟨w.heap.size, 4, none⟩ = some (.int .i64 h) := T1.out.cell 4
  have cf4 := T1.out.frozen 4
  have c5 : W1.cell? ⟨w.heap.size, 5, none⟩ = some (.int .i64 l) := T1.out.cell 5
  have cf5 := T1.out.frozen 5
  go_wp2_with fail
  refine (I3.out _).mono ?_
  rintro e w' ⟨rfl, hw'⟩
  subst w'
  go_wp2_with fail
  go_ret
  exact ⟨by rw [HE.out]; rfl, T1.out.1⟩

set_option maxRecDepth 100000 in
set_option maxHeartbeats 4000000 in
theorem list14 (zs : List Int) (A : Option Addr) (n c : Nat) (w : World) (hn : n ≤ 1048577) (h1 : RdZ 6 w w.heap.size A n zs) :
    Calls Tryz.prog 48 #[.slice A n c] w fun e w' => e = .returned (.bool (tvB zs n)) ∧ Below w.heap.size w w' := by
  have HNO := Lib.hid (fun k (hk : k < n) (h : okT zs (k + 1) = false) => tvB_no (okT_cut h hk))
  have HR := Lib.hid h1
  have HEND := Lib.hid (fun (h : n ≤ 6 → okT zs n = true) => show tvB zs n = decide ((n : Int) ≤ 6) by
    by_cases hb : n ≤ 6
    · rw [tvB_of (h hb) hb, decide_eq_true (show (n : Int) ≤ 6 by omega)]
    · rw [tvB_len (by omega), decide_eq_false (show ¬ (n : Int) ≤ 6 by omega)])
  clear h1
  go_enter Tryz.func48, Tryz.ntmps48
  go_wp2_with fail
  go_loopw [3] (fun i wr => ∃ k : Nat, k ≤ n ∧ k ≤ 7 ∧ i = .int .i64 k ∧ Below w.heap.size w wr ∧ okT zs k = true) (fun i _ => n - (intOf i).toNat)
  case atStart => exact ⟨0, Nat.zero_le _, by omega, rfl, Below.refl _ _, rfl⟩
  case round =>
    obtain ⟨k, hk, hk7, rfl, hb, hck⟩ := hrel
    have HB := Lib.hid hb
    by_cases hlt : k < n
    · by_cases hk6 : k ≤ 6
      · have hlt2 : (k : Int) < (n : Int) := by omega
        have hk62 : (k : Int) ≤ 6 := by omega
        obtain ⟨b1, o1, rfl, l1, p0, p1, p2, p3, p4, p5⟩ := cellsE (HR.out.below hb (Nat.le_refl _)) hlt
        have HO := Lib.hid (show okT zs (k + 1) = (tkB (fld 6 zs k 0) (fld 6 zs k 1) (fld 6 zs k 2) (fld 6 zs k 3) (fld 6 zs k 4) (fld 6 zs k 5) && (decide (k = 0) || decide (fld 6 zs (k - 1) 0 < fld 6 zs k 0))) by
          rw [show okT zs (k + 1) = (okT zs k && (tkK zs k && (decide (k = 0) || decide (fld 6 zs (k - 1) 0 < fld 6 zs k 0)))) from rfl, hck, Bool.true_and]; rfl)
        have t1 := fun w => good14 (fld 6 zs k 0) (fld 6 zs k 1) (fld 6 zs k 2) (fld 6 zs k 3) (fld 6 zs k 4) (fld 6 zs k 5) w
        have HNk := Lib.hid (HNO.out k hlt)
        have HZ := Lib.hid (show 0 < k → ∃ p, p + 1 = k ∧ wr.cell? ⟨b1, o1 + p * 6, none⟩ = some (.int .i64 (fld 6 zs p 0)) from fun h0 => by
          obtain ⟨b2, o2, eA, l2, q0, -⟩ := cellsE (HR.out.below hb (Nat.le_refl _)) (show k - 1 < n by omega)
          obtain ⟨rfl, rfl⟩ : b1 = b2 ∧ o1 = o2 := by injection eA with e; injection e with e1 e2; exact ⟨e1, e2⟩
          exact ⟨k - 1, by omega, q0⟩)
        clear hb hck HNO HEND
        generalize tkB (fld 6 zs k 0) (fld 6 zs k 1) (fld 6 zs k 2) (fld 6 zs k 3) (fld 6 zs k 4) (fld 6 zs k 5) = pb at *
        generalize fld 6 zs k 0 = u0 at *
        generalize fld 6 zs k 1 = u1 at *
        generalize fld 6 zs k 2 = u2 at *
        generalize fld 6 zs k 3 = u3 at *
        generalize fld 6 zs k 4 = u4 at *
        generalize fld 6 zs k 5 = u5 at *
        cases pb
        · have HN := Lib.hid (HNk.out (by rw [HO.out]; rfl))
          have T1 := Lib.hid (fun w d0 os => Calls.regrown_of (t1 (Sort.grow (redrawn w d0) os)))
          clear HO HZ t1
          go_wp2_with fail
          have p0' := fun d0 os => cell_regrown p0 d0 os
          have p1' := fun d0 os => cell_regrown p1 d0 os
          have p2' := fun d0 os => cell_regrown p2 d0 os
          have p3' := fun d0 os => cell_regrown p3 d0 os
          have p4' := fun d0 os => cell_regrown p4 d0 os
          have p5' := fun d0 os => cell_regrown p5 d0 os
          clear p0 p1 p2 p3 p4 p5
          refine wp_region_quiet_below (by kernel_rfl) (by kernel_rfl) ?_
          repeat (
            with_reducible refine wpQuiet_step (fun K hK => ?_)
            go_simp
            first
              | (refine hK _ ?_; clear hK K)
              | (apply Exists.intro
                 refine ⟨fun _ => ?_, hK _ ?_⟩
                 (first
                   | (go_at_call 33; with_reducible exact T1.out _ _ _))
                 clear hK K))
          with_reducible refine wpQuiet_nil ?_
          intro _ hw'
          obtain ⟨⟨dq, osq⟩, hw''⟩ := hw'
          subst hw''
          have hbl := (below_regrown wr dq osq)
          clear p0' p1' p2' p3' p4' p5'
          generalize Sort.grow (redrawn wr dq) osq = w3 at *
          have hbq := Lib.hid (HB.out.trans (hbl.mono HB.out.size))
          clear HB hbl
          go_wp2_with fail
          go_ret
          exact ⟨by rw [HN.out]; rfl, hbq.out⟩
        have T1 := Lib.hid (fun w d0 os => Calls.regrown_of (t1 (Sort.grow (redrawn w d0) os)))
        clear t1
        rcases Nat.eq_zero_or_pos k with h0 | h0
        · have HT := Lib.hid (show okT zs (k + 1) = true by rw [HO.out, decide_eq_true h0]; rfl)
          subst h0
          rw [Nat.zero_mul, Nat.add_zero] at p0 p1 p2 p3 p4 p5
          clear HO HNk HZ
          go_wp2_with fail
          have p0' := fun d0 os => cell_regrown p0 d0 os
          have p1' := fun d0 os => cell_regrown p1 d0 os
          have p2' := fun d0 os => cell_regrown p2 d0 os
          have p3' := fun d0 os => cell_regrown p3 d0 os
          have p4' := fun d0 os => cell_regrown p4 d0 os
          have p5' := fun d0 os => cell_regrown p5 d0 os
          clear p0 p1 p2 p3 p4 p5
          refine wp_region_quiet_below (by kernel_rfl) (by kernel_rfl) ?_
          repeat (
            with_reducible refine wpQuiet_step (fun K hK => ?_)
            go_simp
            first
              | (refine hK _ ?_; clear hK K)
              | (apply Exists.intro
                 refine ⟨fun _ => ?_, hK _ ?_⟩
                 (first
                   | (go_at_call 33; with_reducible exact T1.out _ _ _))
                 clear hK K))
          with_reducible refine wpQuiet_nil ?_
          intro _ hw'
          obtain ⟨⟨dq, osq⟩, hw''⟩ := hw'
          subst hw''
          have hbl := (below_regrown wr dq osq)
          clear p0' p1' p2' p3' p4' p5'
          generalize Sort.grow (redrawn wr dq) osq = w3 at *
          have hbq := Lib.hid (HB.out.trans (hbl.mono HB.out.size))
          clear HB hbl
          go_wp2_with fail
          go_roundw
          case rel => exact ⟨0 + 1, by omega, by omega, by go_num, hbq.out, HT.out⟩
          case measure => simp [intOf]; omega
        obtain ⟨p, hp, q0⟩ := HZ.out h0
        rw [show k - 1 = p by omega] at HO
        have hpn2 : (p : Int) < (n : Int) := by omega
        have hp0 : (0 : Int) ≤ (p : Int) := Int.natCast_nonneg _
        have e1 : IntKind.i64.wrap ((k : Int) - 1) = (p : Int) := by rw [IntWalk.i64_in _ (by omega)]; omega
        have hk0 : decide (0 < k) = true := decide_eq_true h0
        clear HZ hp
        by_cases hs : fld 6 zs p 0 < u0
        · have HT := Lib.hid (show okT zs (k + 1) = true by rw [HO.out, decide_eq_true hs]; simp)
          have hs2 : ¬ u0 ≤ fld 6 zs p 0 := by omega
          clear HO HNk hs
          generalize fld 6 zs p 0 = z at *
          go_wp2_with fail
          have p0' := fun d0 os => cell_regrown p0 d0 os
          have p1' := fun d0 os => cell_regrown p1 d0 os
          have p2' := fun d0 os => cell_regrown p2 d0 os
          have p3' := fun d0 os => cell_regrown p3 d0 os
          have p4' := fun d0 os => cell_regrown p4 d0 os
          have p5' := fun d0 os => cell_regrown p5 d0 os
          have q0' := fun d0 os => cell_regrown q0 d0 os
          clear p0 p1 p2 p3 p4 p5 q0
          refine wp_region_quiet_below (by kernel_rfl) (by kernel_rfl) ?_
          repeat (
            with_reducible refine wpQuiet_step (fun K hK => ?_)
            go_simp
            first
              | (refine hK _ ?_; clear hK K)
              | (apply Exists.intro
                 refine ⟨fun _ => ?_, hK _ ?_⟩
                 (first
                   | (go_at_call 33; with_reducible exact T1.out _ _ _))
                 clear hK K))
          with_reducible refine wpQuiet_nil ?_
          intro _ hw'
          obtain ⟨⟨dq, osq⟩, hw''⟩ := hw'
          subst hw''
          have hbl := (below_regrown wr dq osq)
          clear p0' p1' p2' p3' p4' p5' q0'
          generalize Sort.grow (redrawn wr dq) osq = w3 at *
          have hbq := Lib.hid (HB.out.trans (hbl.mono HB.out.size))
          clear HB hbl
          go_wp2_with fail
          go_roundw
          case rel => exact ⟨k + 1, by omega, by omega, by go_num, hbq.out, HT.out⟩
          case measure => simp [intOf]; omega
        · have HN := Lib.hid (HNk.out (by rw [HO.out, decide_eq_false hs, decide_eq_false (show ¬ k = 0 by omega)]; rfl))
          have hs2 : u0 ≤ fld 6 zs p 0 := by omega
          clear HO HNk hs
          generalize fld 6 zs p 0 = z at *
          go_wp2_with fail
          have p0' := fun d0 os => cell_regrown p0 d0 os
          have p1' := fun d0 os => cell_regrown p1 d0 os
          have p2' := fun d0 os => cell_regrown p2 d0 os
          have p3' := fun d0 os => cell_regrown p3 d0 os
          have p4' := fun d0 os => cell_regrown p4 d0 os
          have p5' := fun d0 os => cell_regrown p5 d0 os
          have q0' := fun d0 os => cell_regrown q0 d0 os
          clear p0 p1 p2 p3 p4 p5 q0
          refine wp_region_quiet_below (by kernel_rfl) (by kernel_rfl) ?_
          repeat (
            with_reducible refine wpQuiet_step (fun K hK => ?_)
            go_simp
            first
              | (refine hK _ ?_; clear hK K)
              | (apply Exists.intro
                 refine ⟨fun _ => ?_, hK _ ?_⟩
                 (first
                   | (go_at_call 33; with_reducible exact T1.out _ _ _))
                 clear hK K))
          with_reducible refine wpQuiet_nil ?_
          intro _ hw'
          obtain ⟨⟨dq, osq⟩, hw''⟩ := hw'
          subst hw''
          have hbl := (below_regrown wr dq osq)
          clear p0' p1' p2' p3' p4' p5' q0'
          generalize Sort.grow (redrawn wr dq) osq = w3 at *
          have hbq := Lib.hid (HB.out.trans (hbl.mono HB.out.size))
          clear HB hbl
          go_wp2_with fail
          go_ret
          exact ⟨by rw [HN.out]; rfl, hbq.out⟩
      · have HE := Lib.hid (HEND.out (fun h => by omega))
        have hlt2 : (k : Int) < (n : Int) := by omega
        have hk62 : ¬ (k : Int) ≤ 6 := by omega
        have hn6 : ¬ (n : Int) ≤ 6 := by omega
        clear hck HNO HEND
        go_wp2_with fail
        go_ret
        exact ⟨by rw [HE.out]; simp; omega, HB.out⟩
    · obtain rfl : k = n := by omega
      have HE := Lib.hid (HEND.out (fun _ => hck))
      clear hck HNO HEND
      go_wp2_with fail
      go_ret
      exact ⟨by rw [HE.out]; rfl, HB.out⟩
end Go.Proofs.YtfigjfckelichaaGreatDoor.trks
