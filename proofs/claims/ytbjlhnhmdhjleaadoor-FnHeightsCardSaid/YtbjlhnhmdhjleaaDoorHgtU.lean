/- spec's heights, on: EncodeHeight, NearestHeight, ChangedBits, ClimbRate. -/
import Derived.Test.YtbjlhnhmdhjleaaDoorHgtS
namespace Go.Proofs.YtbjlhnhmdhjleaaDoor.hgtu
open Go.RowKit Go.Proofs.YtbjlhnhmdhjleaaDoor.hgt Go.Proofs.YtbjlhnhmdhjleaaDoor.bin Go.Proofs.YtbjlhnhmdhjleaaDoor.in_ Go.Proofs.YtbjlhnhmdhjleaaDoor.hgti Go.Proofs.YtbjlhnhmdhjleaaDoor.hgtj Go.Proofs.YtbjlhnhmdhjleaaDoor.hgtk Go.Proofs.YtbjlhnhmdhjleaaDoor.hgtc Go.Proofs.YtbjlhnhmdhjleaaDoor.hgtg

theorem least_le (a b : Int) (w : World) (h : a ≤ b) :
    Calls Tryd.prog 32 #[.int .i64 a, .int .i64 b] w fun e w' => e = .returned (.int .i64 a) ∧ w = w' := by
  by_cases h1 : a < b
  · go_enter Tryd.func32, Tryd.ntmps32
    go_wp2_with fail
    go_ret
    exact ⟨rfl, rfl⟩
  · obtain rfl : a = b := by omega
    go_enter Tryd.func32, Tryd.ntmps32
    go_wp2_with fail
    go_ret
    exact ⟨rfl, rfl⟩
theorem least_gt (a b : Int) (w : World) (h : b < a) :
    Calls Tryd.prog 32 #[.int .i64 a, .int .i64 b] w fun e w' => e = .returned (.int .i64 b) ∧ w = w' := by
  have g : decide (a < b) = false := decide_eq_false (by omega)
  go_enter Tryd.func32, Tryd.ntmps32
  go_wp2_with fail
  go_ret
  exact ⟨rfl, rfl⟩
theorem most_neg (x : Int) (w : World) (h0 : -8000000 ≤ x) (h1 : x ≤ 8000000) :
    Calls Tryd.prog 44 #[.int .i64 x, .int .i64 (-x)] w fun e w' => e = .returned (.int .i64 (x.natAbs : Int)) ∧ w = w' := by
  by_cases h : 0 < x
  · have e1 : (x.natAbs : Int) = x := by omega
    rw [e1]
    have g : decide (-x < x) = true := decide_eq_true (by omega)
    clear e1
    go_enter Tryd.func44, Tryd.ntmps44
    go_wp2_with fail
    go_ret
    exact ⟨rfl, rfl⟩
  · have e1 : (x.natAbs : Int) = -x := by omega
    rw [e1]
    have g : decide (-x < x) = false := decide_eq_false (by omega)
    clear e1
    go_enter Tryd.func44, Tryd.ntmps44
    go_wp2_with fail
    go_ret
    exact ⟨rfl, rfl⟩

theorem nearest (h : Int) (f : Bool) (w : World) :
    Calls Tryd.prog 15 #[.int .i64 h, .bool f] w fun e w' => e = .returned (.tuple #[.int .i64 (nrV h f), .bool (hB h)]) ∧ w = w' := by
  have HH := Lib.hid (fun w => hgts.isHeight h w)
  cases hb : hB h
  · have HE := Lib.hid (nr_no (f := f) hb)
    rw [hb] at HE HH
    clear hb
    go_enter Tryd.func15, Tryd.ntmps15
    go_wp2_with fail
    refine (HH.out _).mono ?_
    rintro e w0 ⟨rfl, rfl⟩
    go_wp2_with fail
    go_ret2
    exact ⟨HE.out, rfl⟩
  · have h2 := hb
    unfold hB at h2
    rw [decide_eq_true_eq] at h2
    obtain ⟨h3, h4⟩ := h2
    rw [hb] at HH
    cases f
    · by_cases h0 : h < lo false
      · have HE := Lib.hid (ret2 (a := -1200) (nr_low (f := false) hb h0))
        have g0 : h < -1200 := h0
        clear hb h0
        go_enter Tryd.func15, Tryd.ntmps15
        go_wp2_with fail
        refine (HH.out _).mono ?_
        rintro e w0 ⟨rfl, rfl⟩
        go_wp2_with fail
        go_ret2
        exact ⟨HE.out, rfl⟩
      · by_cases h1 : hi false < h
        · have HE := Lib.hid (ret2 (a := 126700) (nr_high (f := false) hb h1))
          have g0 : 126700 < h := h1
          have g2 : 1279 ≤ (h + 1200 + 49) / 100 := by omega
          clear hb h0 h1
          obtain ⟨q, hq⟩ : ∃ q, (h + 1200 + 49) / 100 = q := ⟨_, rfl⟩
          rw [hq] at g2
          by_cases g3 : q ≤ 1279
          · have HL := Lib.hid (fun w => least_le q 1279 w g3)
            obtain rfl : q = 1279 := by omega
            rw [← hq] at HL
            have HQ := Lib.hid hq
            clear hq g2 g3
            rw [HQ.out] at HL
            have hq := HQ.out
            go_enter Tryd.func15, Tryd.ntmps15
            go_wp2_with fail
            refine (HH.out _).mono ?_
            rintro e w0 ⟨rfl, rfl⟩
            go_wp2_with fail
            refine (HL.out _).mono ?_
            rintro e w1 ⟨rfl, rfl⟩
            go_wp2_with fail
            go_ret2
            exact ⟨HE.out, rfl⟩
          · have HL := Lib.hid (fun w => least_gt q 1279 w (by omega))
            clear g2
            go_enter Tryd.func15, Tryd.ntmps15
            go_wp2_with fail
            refine (HH.out _).mono ?_
            rintro e w0 ⟨rfl, rfl⟩
            go_wp2_with fail
            refine (HL.out _).mono ?_
            rintro e w1 ⟨rfl, rfl⟩
            go_wp2_with fail
            go_ret2
            exact ⟨HE.out, rfl⟩
        · have HE := Lib.hid (ret2 (a := -1200 + 100 * ((h + 1200 + 49) / 100)) ((nr_mid (f := false) hb h0 h1).trans (by simp [lo, st])))
          have g0 : -1200 ≤ h := by have : ¬ h < -1200 := h0; omega
          have g1 : h ≤ 126700 := by have : ¬ 126700 < h := h1; omega
          clear hb h0 h1
          have HL := Lib.hid (fun w => least_le ((h + 1200 + 49) / 100) 1279 w (by omega))
          go_enter Tryd.func15, Tryd.ntmps15
          go_wp2_with fail
          refine (HH.out _).mono ?_
          rintro e w0 ⟨rfl, rfl⟩
          go_wp2_with fail
          refine (HL.out _).mono ?_
          rintro e w1 ⟨rfl, rfl⟩
          go_wp2_with fail
          go_ret2
          exact ⟨HE.out, rfl⟩
    · by_cases h0 : h < lo true
      · have HE := Lib.hid (ret2 (a := -1000) (nr_low (f := true) hb h0))
        have g0 : h < -1000 := h0
        clear hb h0
        go_enter Tryd.func15, Tryd.ntmps15
        go_wp2_with fail
        refine (HH.out _).mono ?_
        rintro e w0 ⟨rfl, rfl⟩
        go_wp2_with fail
        go_ret2
        exact ⟨HE.out, rfl⟩
      · by_cases h1 : hi true < h
        · have HE := Lib.hid (ret2 (a := 50175) (nr_high (f := true) hb h1))
          have g0 : 50175 < h := h1
          have g2 : 2047 ≤ (h + 1000 + 12) / 25 := by omega
          clear hb h0 h1
          obtain ⟨q, hq⟩ : ∃ q, (h + 1000 + 12) / 25 = q := ⟨_, rfl⟩
          rw [hq] at g2
          by_cases g3 : q ≤ 2047
          · have HL := Lib.hid (fun w => least_le q 2047 w g3)
            obtain rfl : q = 2047 := by omega
            rw [← hq] at HL
            have HQ := Lib.hid hq
            clear hq g2 g3
            rw [HQ.out] at HL
            have hq := HQ.out
            go_enter Tryd.func15, Tryd.ntmps15
            go_wp2_with fail
            refine (HH.out _).mono ?_
            rintro e w0 ⟨rfl, rfl⟩
            go_wp2_with fail
            refine (HL.out _).mono ?_
            rintro e w1 ⟨rfl, rfl⟩
            go_wp2_with fail
            go_ret2
            exact ⟨HE.out, rfl⟩
          · have HL := Lib.hid (fun w => least_gt q 2047 w (by omega))
            clear g2
            go_enter Tryd.func15, Tryd.ntmps15
            go_wp2_with fail
            refine (HH.out _).mono ?_
            rintro e w0 ⟨rfl, rfl⟩
            go_wp2_with fail
            refine (HL.out _).mono ?_
            rintro e w1 ⟨rfl, rfl⟩
            go_wp2_with fail
            go_ret2
            exact ⟨HE.out, rfl⟩
        · have HE := Lib.hid (ret2 (a := -1000 + 25 * ((h + 1000 + 12) / 25)) ((nr_mid (f := true) hb h0 h1).trans (by simp [lo, st])))
          have g0 : -1000 ≤ h := by have : ¬ h < -1000 := h0; omega
          have g1 : h ≤ 50175 := by have : ¬ 50175 < h := h1; omega
          clear hb h0 h1
          have HL := Lib.hid (fun w => least_le ((h + 1000 + 12) / 25) 2047 w (by omega))
          go_enter Tryd.func15, Tryd.ntmps15
          go_wp2_with fail
          refine (HH.out _).mono ?_
          rintro e w0 ⟨rfl, rfl⟩
          go_wp2_with fail
          refine (HL.out _).mono ?_
          rintro e w1 ⟨rfl, rfl⟩
          go_wp2_with fail
          go_ret2
          exact ⟨HE.out, rfl⟩
end Go.Proofs.YtbjlhnhmdhjleaaDoor.hgtu
