/- spec's heights, on: EncodeHeight, NearestHeight, ChangedBits, ClimbRate. -/
import Derived.Test.YtbjlhnhmdhjleaaHgtS
namespace Go.Proofs.Ytbjlhnhmdhjleaa.hgtu
open Go.RowKit Go.Proofs.Ytbjlhnhmdhjleaa.hgt Go.Proofs.Ytbjlhnhmdhjleaa.bin Go.Proofs.Ytbjlhnhmdhjleaa.in_ Go.Proofs.Ytbjlhnhmdhjleaa.hgti Go.Proofs.Ytbjlhnhmdhjleaa.hgtj Go.Proofs.Ytbjlhnhmdhjleaa.hgtk Go.Proofs.Ytbjlhnhmdhjleaa.hgtc Go.Proofs.Ytbjlhnhmdhjleaa.hgtg

theorem least_le (a b : Int) (w : World) (h : a ≤ b) :
    Calls Try.prog 42 #[.int .i64 a, .int .i64 b] w fun e w' => e = .returned (.int .i64 a) ∧ w = w' := by
  by_cases h1 : a < b
  · go_enter Try.func42, Try.ntmps42
    go_wp2_with fail
    go_ret
    exact ⟨rfl, rfl⟩
  · obtain rfl : a = b := by omega
    go_enter Try.func42, Try.ntmps42
    go_wp2_with fail
    go_ret
    exact ⟨rfl, rfl⟩
theorem least_gt (a b : Int) (w : World) (h : b < a) :
    Calls Try.prog 42 #[.int .i64 a, .int .i64 b] w fun e w' => e = .returned (.int .i64 b) ∧ w = w' := by
  have g : decide (a < b) = false := decide_eq_false (by omega)
  go_enter Try.func42, Try.ntmps42
  go_wp2_with fail
  go_ret
  exact ⟨rfl, rfl⟩
theorem most_neg (x : Int) (w : World) (h0 : -8000000 ≤ x) (h1 : x ≤ 8000000) :
    Calls Try.prog 48 #[.int .i64 x, .int .i64 (-x)] w fun e w' => e = .returned (.int .i64 (x.natAbs : Int)) ∧ w = w' := by
  by_cases h : 0 < x
  · have e1 : (x.natAbs : Int) = x := by omega
    rw [e1]
    have g : decide (-x < x) = true := decide_eq_true (by omega)
    clear e1
    go_enter Try.func48, Try.ntmps48
    go_wp2_with fail
    go_ret
    exact ⟨rfl, rfl⟩
  · have e1 : (x.natAbs : Int) = -x := by omega
    rw [e1]
    have g : decide (-x < x) = false := decide_eq_false (by omega)
    clear e1
    go_enter Try.func48, Try.ntmps48
    go_wp2_with fail
    go_ret
    exact ⟨rfl, rfl⟩

theorem encode_fine (h : Int) (w : World) (h9 : -9223372036854775808 ≤ h) (h8 : h ≤ 9223372036854775807) :
    Calls Try.prog 14 #[.int .i64 h, .bool true] w fun e w' => e = .returned (.tuple #[.int .i64 (enV h true : Int), .bool (enB h true)]) ∧ w = w' := by
  by_cases h7 : 200000 < h
  · have HE := Lib.hid (en_no (h := h) (f := true) (decide_eq_false (by simp [hi]; omega)))
    have g : decide (50175 < h) = true := decide_eq_true (by omega)
    by_cases h6 : wrap64 (h + 1000) < 0
    · skip
      go_enter Try.func14, Try.ntmps14
      go_wp2_with fail
      all_goals (go_ret2; exact ⟨HE.out, rfl⟩)
    · skip
      go_enter Try.func14, Try.ntmps14
      go_wp2_with fail
      all_goals (go_ret2; exact ⟨HE.out, rfl⟩)
  · by_cases h0 : h < -1000
    · have HE := Lib.hid (en_no (h := h) (f := true) (decide_eq_false (by simp [lo]; omega)))
      go_enter Try.func14, Try.ntmps14
      go_wp2_with fail
      go_ret2
      exact ⟨HE.out, rfl⟩
    · by_cases h2 : (h + 1000) % 25 = 0
      · have d : ((h + 1000) % 25 != 0) = false := by simp; omega
        by_cases h1 : 50175 < h
        · have HE := Lib.hid (en_no (h := h) (f := true) (decide_eq_false (by simp [hi]; omega)))
          clear h2
          go_enter Try.func14, Try.ntmps14
          go_wp2_with fail
          go_ret2
          exact ⟨HE.out, rfl⟩
        · have b1 := (en_fine h0 h1 h2).1
          have HE := Lib.hid (en_yes (c := 2048 + (h + 1000) / 25) b1 (by unfold enV; rw [b1]; simp; omega))
          clear b1 h2
          go_enter Try.func14, Try.ntmps14
          go_wp2_with fail
          go_ret2
          exact ⟨HE.out, rfl⟩
      · have d : ((h + 1000) % 25 != 0) = true := by simp; omega
        have HE := Lib.hid (en_no (h := h) (f := true) (decide_eq_false (by simp [lo, st]; omega)))
        clear h2
        go_enter Try.func14, Try.ntmps14
        go_wp2_with fail
        go_ret2
        exact ⟨HE.out, rfl⟩
theorem encode_coarse (h : Int) (w : World) (h9 : -9223372036854775808 ≤ h) (h8 : h ≤ 9223372036854775807) :
    Calls Try.prog 14 #[.int .i64 h, .bool false] w fun e w' => e = .returned (.tuple #[.int .i64 (enV h false : Int), .bool (enB h false)]) ∧ w = w' := by
  by_cases h7 : 200000 < h
  · have HE := Lib.hid (en_no (h := h) (f := false) (decide_eq_false (by simp [hi]; omega)))
    have g : decide (126700 < h) = true := decide_eq_true (by omega)
    by_cases h6 : wrap64 (h + 1200) < 0
    · skip
      go_enter Try.func14, Try.ntmps14
      go_wp2_with fail
      all_goals (go_ret2; exact ⟨HE.out, rfl⟩)
    · skip
      go_enter Try.func14, Try.ntmps14
      go_wp2_with fail
      all_goals (go_ret2; exact ⟨HE.out, rfl⟩)
  · by_cases h0 : h < -1200
    · have HE := Lib.hid (en_no (h := h) (f := false) (decide_eq_false (by simp [lo]; omega)))
      go_enter Try.func14, Try.ntmps14
      go_wp2_with fail
      go_ret2
      exact ⟨HE.out, rfl⟩
    · by_cases h2 : (h + 1200) % 100 = 0
      · have d : ((h + 1200) % 100 != 0) = false := by simp; omega
        by_cases h1 : 126700 < h
        · have HE := Lib.hid (en_no (h := h) (f := false) (decide_eq_false (by simp [hi]; omega)))
          clear h2
          go_enter Try.func14, Try.ntmps14
          go_wp2_with fail
          go_ret2
          exact ⟨HE.out, rfl⟩
        · obtain ⟨b1, b2, b3⟩ := en_coarse h0 h1 h2
          have HE := Lib.hid (en_yes b1 b3)
          obtain ⟨k, hk⟩ : ∃ k : Nat, (h + 1200) / 100 = (k : Int) := ⟨((h + 1200) / 100).toNat, by omega⟩
          have hk2 : k < 2048 := by omega
          have HG := Lib.hid (fun w => hgts.gray k hk2 w)
          rw [hk, (gr_yes hk2).2.1] at HE
          rw [← hk] at HG
          generalize (hgt.gray k : Int) = c at *
          clear b1 b2 b3 h2 hk hk2
          go_enter Try.func14, Try.ntmps14
          go_wp2_with fail
          refine (HG.out _).mono ?_
          rintro e w2 ⟨rfl, rfl⟩
          go_wp2_with fail
          go_ret2
          exact ⟨HE.out, rfl⟩
      · have d : ((h + 1200) % 100 != 0) = true := by simp; omega
        have HE := Lib.hid (en_no (h := h) (f := false) (decide_eq_false (by simp [lo, st]; omega)))
        clear h2
        go_enter Try.func14, Try.ntmps14
        go_wp2_with fail
        go_ret2
        exact ⟨HE.out, rfl⟩
theorem encode (h : Int) (f : Bool) (w : World) (h9 : -9223372036854775808 ≤ h) (h8 : h ≤ 9223372036854775807) :
    Calls Try.prog 14 #[.int .i64 h, .bool f] w fun e w' => e = .returned (.tuple #[.int .i64 (enV h f : Int), .bool (enB h f)]) ∧ w = w' := by
  cases f
  · exact encode_coarse h w h9 h8
  · exact encode_fine h w h9 h8

theorem nearest (h : Int) (f : Bool) (w : World) :
    Calls Try.prog 27 #[.int .i64 h, .bool f] w fun e w' => e = .returned (.tuple #[.int .i64 (nrV h f), .bool (hB h)]) ∧ w = w' := by
  have HH := Lib.hid (fun w => hgts.isHeight h w)
  cases hb : hB h
  · have HE := Lib.hid (nr_no (f := f) hb)
    rw [hb] at HE HH
    clear hb
    go_enter Try.func27, Try.ntmps27
    go_wp2_with fail
    refine (HH.out _).mono ?_
    rintro e w0 ⟨rfl, rfl⟩
    go_wp2_with fail
    go_ret2
    exact ⟨HE.out, rfl⟩
  · have h2 := hb
    unfold hB at h2
    rw [decide_eq_true_eq] at h2
    obtain ⟨h3, h4⟩ := h2
    rw [hb] at HH
    cases f
    · by_cases h0 : h < lo false
      · have HE := Lib.hid (ret2 (a := -1200) (nr_low (f := false) hb h0))
        have g0 : h < -1200 := h0
        clear hb h0
        go_enter Try.func27, Try.ntmps27
        go_wp2_with fail
        refine (HH.out _).mono ?_
        rintro e w0 ⟨rfl, rfl⟩
        go_wp2_with fail
        go_ret2
        exact ⟨HE.out, rfl⟩
      · by_cases h1 : hi false < h
        · have HE := Lib.hid (ret2 (a := 126700) (nr_high (f := false) hb h1))
          have g0 : 126700 < h := h1
          have g2 : 1279 ≤ (h + 1200 + 49) / 100 := by omega
          clear hb h0 h1
          obtain ⟨q, hq⟩ : ∃ q, (h + 1200 + 49) / 100 = q := ⟨_, rfl⟩
          rw [hq] at g2
          by_cases g3 : q ≤ 1279
          · have HL := Lib.hid (fun w => least_le q 1279 w g3)
            obtain rfl : q = 1279 := by omega
            rw [← hq] at HL
            have HQ := Lib.hid hq
            clear hq g2 g3
            rw [HQ.out] at HL
            have hq := HQ.out
            go_enter Try.func27, Try.ntmps27
            go_wp2_with fail
            refine (HH.out _).mono ?_
            rintro e w0 ⟨rfl, rfl⟩
            go_wp2_with fail
            refine (HL.out _).mono ?_
            rintro e w1 ⟨rfl, rfl⟩
            go_wp2_with fail
            go_ret2
            exact ⟨HE.out, rfl⟩
          · have HL := Lib.hid (fun w => least_gt q 1279 w (by omega))
            clear g2
            go_enter Try.func27, Try.ntmps27
            go_wp2_with fail
            refine (HH.out _).mono ?_
            rintro e w0 ⟨rfl, rfl⟩
            go_wp2_with fail
            refine (HL.out _).mono ?_
            rintro e w1 ⟨rfl, rfl⟩
            go_wp2_with fail
            go_ret2
            exact ⟨HE.out, rfl⟩
        · have HE := Lib.hid (ret2 (a := -1200 + 100 * ((h + 1200 + 49) / 100)) ((nr_mid (f := false) hb h0 h1).trans (by simp [lo, st])))
          have g0 : -1200 ≤ h := by have : ¬ h < -1200 := h0; omega
          have g1 : h ≤ 126700 := by have : ¬ 126700 < h := h1; omega
          clear hb h0 h1
          have HL := Lib.hid (fun w => least_le ((h + 1200 + 49) / 100) 1279 w (by omega))
          go_enter Try.func27, Try.ntmps27
          go_wp2_with fail
          refine (HH.out _).mono ?_
          rintro e w0 ⟨rfl, rfl⟩
          go_wp2_with fail
          refine (HL.out _).mono ?_
          rintro e w1 ⟨rfl, rfl⟩
          go_wp2_with fail
          go_ret2
          exact ⟨HE.out, rfl⟩
    · by_cases h0 : h < lo true
      · have HE := Lib.hid (ret2 (a := -1000) (nr_low (f := true) hb h0))
        have g0 : h < -1000 := h0
        clear hb h0
        go_enter Try.func27, Try.ntmps27
        go_wp2_with fail
        refine (HH.out _).mono ?_
        rintro e w0 ⟨rfl, rfl⟩
        go_wp2_with fail
        go_ret2
        exact ⟨HE.out, rfl⟩
      · by_cases h1 : hi true < h
        · have HE := Lib.hid (ret2 (a := 50175) (nr_high (f := true) hb h1))
          have g0 : 50175 < h := h1
          have g2 : 2047 ≤ (h + 1000 + 12) / 25 := by omega
          clear hb h0 h1
          obtain ⟨q, hq⟩ : ∃ q, (h + 1000 + 12) / 25 = q := ⟨_, rfl⟩
          rw [hq] at g2
          by_cases g3 : q ≤ 2047
          · have HL := Lib.hid (fun w => least_le q 2047 w g3)
            obtain rfl : q = 2047 := by omega
            rw [← hq] at HL
            have HQ := Lib.hid hq
            clear hq g2 g3
            rw [HQ.out] at HL
            have hq := HQ.out
            go_enter Try.func27, Try.ntmps27
            go_wp2_with fail
            refine (HH.out _).mono ?_
            rintro e w0 ⟨rfl, rfl⟩
            go_wp2_with fail
            refine (HL.out _).mono ?_
            rintro e w1 ⟨rfl, rfl⟩
            go_wp2_with fail
            go_ret2
            exact ⟨HE.out, rfl⟩
          · have HL := Lib.hid (fun w => least_gt q 2047 w (by omega))
            clear g2
            go_enter Try.func27, Try.ntmps27
            go_wp2_with fail
            refine (HH.out _).mono ?_
            rintro e w0 ⟨rfl, rfl⟩
            go_wp2_with fail
            refine (HL.out _).mono ?_
            rintro e w1 ⟨rfl, rfl⟩
            go_wp2_with fail
            go_ret2
            exact ⟨HE.out, rfl⟩
        · have HE := Lib.hid (ret2 (a := -1000 + 25 * ((h + 1000 + 12) / 25)) ((nr_mid (f := true) hb h0 h1).trans (by simp [lo, st])))
          have g0 : -1000 ≤ h := by have : ¬ h < -1000 := h0; omega
          have g1 : h ≤ 50175 := by have : ¬ 50175 < h := h1; omega
          clear hb h0 h1
          have HL := Lib.hid (fun w => least_le ((h + 1000 + 12) / 25) 2047 w (by omega))
          go_enter Try.func27, Try.ntmps27
          go_wp2_with fail
          refine (HH.out _).mono ?_
          rintro e w0 ⟨rfl, rfl⟩
          go_wp2_with fail
          refine (HL.out _).mono ?_
          rintro e w1 ⟨rfl, rfl⟩
          go_wp2_with fail
          go_ret2
          exact ⟨HE.out, rfl⟩
end Go.Proofs.Ytbjlhnhmdhjleaa.hgtu
