/- impl's heights, on: DecodeHeight, NearestHeight, ChangedBits. -/
import Derived.Test.YtbjlhnhmdhjleaaDoorHgtJ
namespace Go.Proofs.YtbjlhnhmdhjleaaDoor.hgtk
open Go.RowKit Go.Proofs.YtbjlhnhmdhjleaaDoor.hgt Go.Proofs.YtbjlhnhmdhjleaaDoor.bin Go.Proofs.YtbjlhnhmdhjleaaDoor.hgtm Go.Proofs.YtbjlhnhmdhjleaaDoor.hgti

/-- DecodeHeight's three results. -/
def dcK (c : Int) : Bool := dcF c && dcB c
theorem dc_no {c : Int} (e : dcB c = false) : Ending.returned (.tuple #[.int .i64 0, .bool false, .bool false]) = .returned (.tuple #[.int .i64 (dcH c), .bool (dcF c), .bool (dcB c)]) := by
  have h := e
  unfold dcB at h
  rw [Bool.or_eq_false_iff] at h
  unfold dcH
  rw [e, h.1, h.2]
  rfl
theorem dc_fine {c : Int} (h0 : 2048 ≤ c) (h1 : c ≤ 4095) : Ending.returned (.tuple #[.int .i64 (25 * (c - 2048) - 1000), .bool true, .bool true]) = .returned (.tuple #[.int .i64 (dcH c), .bool (dcF c), .bool (dcB c)]) := by
  have e : dcF c = true := decide_eq_true ⟨h0, h1⟩
  unfold dcH dcB
  rw [e]
  rfl
theorem dc_coarse {k : Nat} (h0 : k < 2048) (h1 : un k ≤ 1279) : Ending.returned (.tuple #[.int .i64 (100 * (un k : Int) - 1200), .bool false, .bool true]) = .returned (.tuple #[.int .i64 (dcH (k : Int)), .bool (dcF (k : Int)), .bool (dcB (k : Int))]) := by
  have e : dcF (k : Int) = false := decide_eq_false (by omega)
  have e2 : dcC (k : Int) = true := by unfold dcC; rw [Int.toNat_natCast, decide_eq_true h1, decide_eq_true (show (0 : Int) ≤ k ∧ (k : Int) ≤ 2047 by omega)]; rfl
  unfold dcH dcB
  rw [e, e2, Int.toNat_natCast]
  rfl
theorem dc_out {c : Int} (h : c < 0 ∨ 4095 < c) : dcB c = false := by
  unfold dcB dcF dcC
  rw [decide_eq_false (show ¬ (2048 ≤ c ∧ c ≤ 4095) by omega), decide_eq_false (show ¬ (0 ≤ c ∧ c ≤ 2047) by omega)]
  rfl
theorem dc_over {k : Nat} (h0 : k < 2048) (h1 : 1279 < un k) : dcB (k : Int) = false := by
  unfold dcB dcF dcC
  rw [Int.toNat_natCast, decide_eq_false (show ¬ (2048 ≤ (k : Int) ∧ (k : Int) ≤ 4095) by omega), decide_eq_false (show ¬ (un k ≤ 1279) by omega)]
  simp
theorem low_fin : ∀ k : Fin 2048, bits .and .i64 (k.val : Int) 2048 = 0 ∧ bits .andNot .i64 (k.val : Int) 2048 = (k.val : Int) := by decide +kernel
theorem high_fin : ∀ k : Fin 2048, bits .and .i64 (2048 + (k.val : Int)) 2048 = 2048 ∧ bits .andNot .i64 (2048 + (k.val : Int)) 2048 = (k.val : Int) := by decide +kernel

theorem nr_no {h : Int} {f : Bool} (e : hB h = false) : Ending.returned (.tuple #[.int .i64 0, .bool false]) = .returned (.tuple #[.int .i64 (nrV h f), .bool (hB h)]) := by unfold nrV; rw [e]; rfl
theorem nr_low {h : Int} {f : Bool} (e : hB h = true) (h0 : h < lo f) : nrV h f = lo f := by
  unfold nrV clamp
  rw [e, if_pos h0]
  cases f <;> simp [lo, st]
theorem nr_high {h : Int} {f : Bool} (e : hB h = true) (h0 : hi f < h) : nrV h f = hi f := by
  have h1 : lo f ≤ hi f := by cases f <;> decide
  unfold nrV clamp
  rw [e, if_neg (show ¬ h < lo f by omega), if_pos h0]
  cases f <;> simp [lo, hi, st]
theorem nr_mid {h : Int} {f : Bool} (e : hB h = true) (h0 : ¬ h < lo f) (h1 : ¬ hi f < h) : nrV h f = lo f + st f * ((h - lo f + (st f - 1) / 2) / st f) := by
  unfold nrV clamp
  rw [e, if_neg h0, if_neg h1]
  rfl
theorem ret2 {a b : Int} (h : b = a) : Ending.returned (.tuple #[.int .i64 a, .bool true]) = .returned (.tuple #[.int .i64 b, .bool true]) := by rw [h]
theorem nearest (h : Int) (f : Bool) (w : World) :
    Calls Tryd.prog 14 #[.int .i64 h, .bool f] w fun e w' => e = .returned (.tuple #[.int .i64 (nrV h f), .bool (hB h)]) ∧ Below w.heap.size w w' := by
  have HH := Lib.hid (fun w => isHeight h w)
  have HS := Lib.hid (fun w => scaleOf f w)
  cases hb : hB h
  · have HE := Lib.hid (nr_no (f := f) hb)
    rw [hb] at HE HH
    clear hb
    go_enter Tryd.func14, Tryd.ntmps14
    go_wp2_with fail
    refine (HH.out _).mono ?_
    rintro e w0 ⟨rfl, rfl⟩
    go_wp2_with fail
    go_ret2
    exact ⟨HE.out, Below.refl _ _⟩
  · have h2 := hb
    unfold hB at h2
    rw [decide_eq_true_eq] at h2
    obtain ⟨h3, h4⟩ := h2
    rw [hb] at HH
    cases f
    · by_cases h0 : h < lo false
      · have HE := Lib.hid (ret2 (a := -1200) (nr_low (f := false) hb h0))
        have g0 : h < -1200 := h0
        clear hb h0
        go_enter Tryd.func14, Tryd.ntmps14
        go_wp2_with fail
        refine (HH.out _).mono ?_
        rintro e w0 ⟨rfl, rfl⟩
        go_wp2_with fail
        refine (HS.out _).mono ?_
        rintro e w1 ⟨rfl, hb⟩
        unfold scale lo hi st
        go_wp2_with fail
        all_goals first | (exfalso; omega) | (go_ret2; exact ⟨HE.out, hb.alloc hb.size _⟩)
      · by_cases h1 : hi false < h
        · have HE := Lib.hid (ret2 (a := 126700) (nr_high (f := false) hb h1))
          have g0 : 126700 < h := h1
          clear hb h0 h1
          go_enter Tryd.func14, Tryd.ntmps14
          go_wp2_with fail
          refine (HH.out _).mono ?_
          rintro e w0 ⟨rfl, rfl⟩
          go_wp2_with fail
          refine (HS.out _).mono ?_
          rintro e w1 ⟨rfl, hb⟩
          unfold scale lo hi st
          go_wp2_with fail
          all_goals first | (exfalso; omega) | (go_ret2; exact ⟨HE.out, hb.alloc hb.size _⟩)
        · have HE := Lib.hid (ret2 (a := -1200 + 100 * ((h + 1200 + 49) / 100)) ((nr_mid (f := false) hb h0 h1).trans (by simp [lo, st])))
          have g0 : -1200 ≤ h := by have : ¬ h < -1200 := h0; omega
          have g1 : h ≤ 126700 := by have : ¬ 126700 < h := h1; omega
          clear hb h0 h1
          go_enter Tryd.func14, Tryd.ntmps14
          go_wp2_with fail
          refine (HH.out _).mono ?_
          rintro e w0 ⟨rfl, rfl⟩
          go_wp2_with fail
          refine (HS.out _).mono ?_
          rintro e w1 ⟨rfl, hb⟩
          unfold scale lo hi st
          go_wp2_with fail
          all_goals first | (exfalso; omega) | (go_ret2; exact ⟨HE.out, hb.alloc hb.size _⟩)
    · by_cases h0 : h < lo true
      · have HE := Lib.hid (ret2 (a := -1000) (nr_low (f := true) hb h0))
        have g0 : h < -1000 := h0
        clear hb h0
        go_enter Tryd.func14, Tryd.ntmps14
        go_wp2_with fail
        refine (HH.out _).mono ?_
        rintro e w0 ⟨rfl, rfl⟩
        go_wp2_with fail
        refine (HS.out _).mono ?_
        rintro e w1 ⟨rfl, hb⟩
        unfold scale lo hi st
        go_wp2_with fail
        all_goals first | (exfalso; omega) | (go_ret2; exact ⟨HE.out, hb.alloc hb.size _⟩)
      · by_cases h1 : hi true < h
        · have HE := Lib.hid (ret2 (a := 50175) (nr_high (f := true) hb h1))
          have g0 : 50175 < h := h1
          clear hb h0 h1
          go_enter Tryd.func14, Tryd.ntmps14
          go_wp2_with fail
          refine (HH.out _).mono ?_
          rintro e w0 ⟨rfl, rfl⟩
          go_wp2_with fail
          refine (HS.out _).mono ?_
          rintro e w1 ⟨rfl, hb⟩
          unfold scale lo hi st
          go_wp2_with fail
          all_goals first | (exfalso; omega) | (go_ret2; exact ⟨HE.out, hb.alloc hb.size _⟩)
        · have HE := Lib.hid (ret2 (a := -1000 + 25 * ((h + 1000 + 12) / 25)) ((nr_mid (f := true) hb h0 h1).trans (by simp [lo, st])))
          have g0 : -1000 ≤ h := by have : ¬ h < -1000 := h0; omega
          have g1 : h ≤ 50175 := by have : ¬ 50175 < h := h1; omega
          clear hb h0 h1
          go_enter Tryd.func14, Tryd.ntmps14
          go_wp2_with fail
          refine (HH.out _).mono ?_
          rintro e w0 ⟨rfl, rfl⟩
          go_wp2_with fail
          refine (HS.out _).mono ?_
          rintro e w1 ⟨rfl, hb⟩
          unfold scale lo hi st
          go_wp2_with fail
          all_goals first | (exfalso; omega) | (go_ret2; exact ⟨HE.out, hb.alloc hb.size _⟩)
end Go.Proofs.YtbjlhnhmdhjleaaDoor.hgtk
