/- impl's IsValidFrame. -/
import Derived.Test.YtdjcbfeilkepmaaFrm
import Derived.WalkKit
import Derived.Below
namespace Go.Proofs.Ytdjcbfeilkepmaa.frmi
open Go.RowKit Go.Proofs.Ytdjcbfeilkepmaa.frm

theorem bool_end {a b : Bool} (h : a = b) : Ending.returned (.bool a) = .returned (.bool b) := by rw [h]
theorem isAddress (A : Int) (w : World) : Calls Try.prog 90 #[.int .i64 A] w fun e w' => e = .returned (.bool (decide (1 ≤ A ∧ A ≤ 65535))) ∧ w = w' := by
  by_cases h1 : 1 ≤ A
  · have d1 : decide (1 ≤ A) = true := decide_eq_true h1
    by_cases h2 : A ≤ 65535
    · have d2 : decide (A ≤ 65535) = true := decide_eq_true h2
      have HR := Lib.hid (bool_end (show true = decide (1 ≤ A ∧ A ≤ 65535) from (decide_eq_true ⟨h1, h2⟩).symm))
      clear h1 h2
      go_enter Try.func90, Try.ntmps90
      go_wp2_with fail
      go_ret
      exact ⟨HR.out, rfl⟩
    · have d2 : decide (A ≤ 65535) = false := decide_eq_false h2
      have HR := Lib.hid (bool_end (show false = decide (1 ≤ A ∧ A ≤ 65535) from (decide_eq_false (fun h => h2 h.2)).symm))
      clear h1 h2
      go_enter Try.func90, Try.ntmps90
      go_wp2_with fail
      go_ret
      exact ⟨HR.out, rfl⟩
  · have d1 : decide (1 ≤ A) = false := decide_eq_false h1
    have HR := Lib.hid (bool_end (show false = decide (1 ≤ A ∧ A ≤ 65535) from (decide_eq_false (fun h => h1 h.1)).symm))
    clear h1
    go_enter Try.func90, Try.ntmps90
    go_wp2_with fail
    go_ret
    exact ⟨HR.out, rfl⟩
theorem isValid (K A D : Int) (w : World) : Calls Try.prog 203 #[.agg #[.int .i64 K, .int .i64 A, .int .i64 D]] w fun e w' => e = .returned (.bool (good K A D)) ∧ Below w.heap.size w w' := by
  have HA := Lib.hid (fun w => isAddress A w)
  by_cases h0 : 1 ≤ K
  · have d0 : decide (1 ≤ K) = true := decide_eq_true h0
    by_cases h1 : K ≤ 4
    · have d1 : decide (K ≤ 4) = true := decide_eq_true h1
      by_cases h2 : 1 ≤ A ∧ A ≤ 65535
      · have d2 : decide (1 ≤ A ∧ A ≤ 65535) = true := decide_eq_true h2
        rw [d2] at HA
        by_cases h3 : 0 ≤ D
        · have d3 : decide (0 ≤ D) = true := decide_eq_true h3
          by_cases h4 : D ≤ 16777215
          · have d4 : decide (D ≤ 16777215) = true := decide_eq_true h4
            have HR := Lib.hid (bool_end (show true = good K A D from (decide_eq_true (by omega)).symm))
            clear h0 h1 h2 h3 h4
            go_enter Try.func203, Try.ntmps203
            go_wp2_with fail
            refine (HA.out _).mono ?_
            rintro e w1 ⟨rfl, rfl⟩
            go_wp2_with fail
            go_ret
            exact ⟨HR.out, (Below.refl _ _).alloc (Nat.le_refl _) _⟩
          · have d4 : decide (D ≤ 16777215) = false := decide_eq_false h4
            have HR := Lib.hid (bool_end (show false = good K A D from (decide_eq_false (by omega)).symm))
            clear h0 h1 h2 h3 h4
            go_enter Try.func203, Try.ntmps203
            go_wp2_with fail
            refine (HA.out _).mono ?_
            rintro e w1 ⟨rfl, rfl⟩
            go_wp2_with fail
            go_ret
            exact ⟨HR.out, (Below.refl _ _).alloc (Nat.le_refl _) _⟩
        · have d3 : decide (0 ≤ D) = false := decide_eq_false h3
          have HR := Lib.hid (bool_end (show false = good K A D from (decide_eq_false (by omega)).symm))
          clear h0 h1 h2 h3
          go_enter Try.func203, Try.ntmps203
          go_wp2_with fail
          refine (HA.out _).mono ?_
          rintro e w1 ⟨rfl, rfl⟩
          go_wp2_with fail
          go_ret
          exact ⟨HR.out, (Below.refl _ _).alloc (Nat.le_refl _) _⟩
      · have d2 : decide (1 ≤ A ∧ A ≤ 65535) = false := decide_eq_false h2
        rw [d2] at HA
        have HR := Lib.hid (bool_end (show false = good K A D from (decide_eq_false (by omega)).symm))
        clear h0 h1 h2
        go_enter Try.func203, Try.ntmps203
        go_wp2_with fail
        refine (HA.out _).mono ?_
        rintro e w1 ⟨rfl, rfl⟩
        go_wp2_with fail
        go_ret
        exact ⟨HR.out, (Below.refl _ _).alloc (Nat.le_refl _) _⟩
    · have d1 : decide (K ≤ 4) = false := decide_eq_false h1
      have HR := Lib.hid (bool_end (show false = good K A D from (decide_eq_false (by omega)).symm))
      clear h0 h1
      go_enter Try.func203, Try.ntmps203
      go_wp2_with fail
      go_ret
      exact ⟨HR.out, (Below.refl _ _).alloc (Nat.le_refl _) _⟩
  · have d0 : decide (1 ≤ K) = false := decide_eq_false h0
    have HR := Lib.hid (bool_end (show false = good K A D from (decide_eq_false (by omega)).symm))
    clear h0
    go_enter Try.func203, Try.ntmps203
    go_wp2_with fail
    go_ret
    exact ⟨HR.out, (Below.refl _ _).alloc (Nat.le_refl _) _⟩
end Go.Proofs.Ytdjcbfeilkepmaa.frmi
