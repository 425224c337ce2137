/- The decimal texts of spec and impl: plain mathematics, and the contracts of spec.l1In, spec.l1Num. -/
import Derived.Test.YtedocpocfpopgaaDoorAid
import Derived.WalkKit
import Derived.Below
import Derived.Lib.Hide
import Derived.Lib.ItoaNum
import Derived.Lib.ItoaLen
import Derived.BigQuiet
import Derived.Deep.QuietTactic
import Derived.IntWalk
import Derived.Deep.DeepMust
import Derived.WalkSpells
import Derived.Outline
namespace Go.Proofs.YtedocpocfpopgaaDoor.num
open Go.RowKit

theorem in_yes (x a b : Int) (w : World) (h1 : a ≤ x) (h2 : x ≤ b) :
    Calls Tryd.prog 77 #[.int .i64 x, .int .i64 a, .int .i64 b] w fun e w' => e = .returned (.bool true) ∧ w = w' := by
  have g1 : decide (a ≤ x) = true := by simpa using h1
  have g2 : decide (x ≤ b) = true := by simpa using h2
  go_enter Tryd.func77, Tryd.ntmps77
  go_wp2
  go_ret
  exact ⟨rfl, rfl⟩

theorem in_no (x a b : Int) (w : World) (h : x < a ∨ b < x) :
    Calls Tryd.prog 77 #[.int .i64 x, .int .i64 a, .int .i64 b] w fun e w' => e = .returned (.bool false) ∧ w = w' := by
  by_cases h1 : x < a
  · have g1 : decide (a ≤ x) = false := by simp; omega
    go_enter Tryd.func77, Tryd.ntmps77
    go_wp2
    go_ret
    exact ⟨rfl, rfl⟩
  · have g1 : decide (a ≤ x) = true := by simp; omega
    have g2 : decide (x ≤ b) = false := by simp; omega
    go_enter Tryd.func77, Tryd.ntmps77
    go_wp2
    go_ret
    exact ⟨rfl, rfl⟩

/-- The decimal text of a number. -/
def txt (n : Int) : ByteArray := ⟨(Lib.itoa n).toArray⟩

theorem itoa_small (n : Int) (h0 : 0 ≤ n) (h : n < 10) : ({ data := #[48, 49, 50, 51, 52, 53, 54, 55, 56, 57] } : ByteArray).extract n.toNat (n + 1).toNat = txt n := by
  rw [show (n + 1).toNat = n.toNat + 1 by omega, aid.digit_text _ (by omega)]
  unfold txt Lib.itoa
  rw [if_neg (by omega), Lib.decDigits_one (by omega)]
theorem itoa_big (n : Int) (h : 10 ≤ n) : txt (n / 10) ++ ({ data := #[48, 49, 50, 51, 52, 53, 54, 55, 56, 57] } : ByteArray).extract (n % 10).toNat (n % 10 + 1).toNat = txt n := by
  rw [show (n % 10 + 1).toNat = (n % 10).toNat + 1 by omega, aid.digit_text _ (by omega)]
  refine aid.str_ext ?_
  rw [aid.str_app]
  unfold txt Lib.itoa
  rw [if_neg (by omega), if_neg (by omega)]
  conv => rhs; rw [Lib.decDigits, dif_neg (by omega)]
  simp only [show (n / 10).toNat = n.toNat / 10 by omega, show (n % 10).toNat = n.toNat % 10 by omega]
theorem itoa_minus (n : Int) (h : n < 0) : ({ data := #[45] } : ByteArray) ++ txt (-n) = txt n := by
  refine aid.str_ext ?_
  rw [aid.str_app]
  unfold txt Lib.itoa
  rw [if_neg (by omega), if_pos h]
  simp only [show (-n).toNat = n.natAbs by omega]
  rfl

theorem txt_size (n : Int) (h0 : -1000000 ≤ n) (h1 : n ≤ 1000000) : (txt n).size ≤ 21 := by
  have := Lib.itoa_length_le n (by omega) (by omega)
  show (Lib.itoa n).toArray.size ≤ 21
  simpa using this

/-- Below ten: one digit. -/
theorem num_small (n : Int) (w : World) (h0 : 0 ≤ n) (h : n < 10) :
    Calls Tryd.prog 86 #[.int .i64 n] w fun e w' => e = .returned (.string (txt n)) ∧ w = w' := by
  have HF := Lib.hid (aid.ret_str (itoa_small n h0 h))
  obtain ⟨n, rfl⟩ := Int.eq_ofNat_of_zero_le h0
  go_enter Tryd.func86, Tryd.ntmps86
  go_wp2_with fail
  go_ret
  exact ⟨HF.out, rfl⟩

theorem num_nat (k : Nat) : ∀ (n : Int) (w : World), 0 ≤ n → n ≤ k → n ≤ 999999 →
    Calls Tryd.prog 86 #[.int .i64 n] w fun e w' => e = .returned (.string (txt n)) ∧ ∃ j, w' = w.drewN j := by
  induction k with
  | zero =>
    intro n w h0 hk _
    exact (num_small n w (by omega) (by omega)).mono fun e w' ⟨he, hw⟩ => ⟨he, 0, by subst hw; rfl⟩
  | succ k ih =>
    intro n w h0 hk hm
    by_cases h : n < 10
    · exact (num_small n w h0 h).mono fun e w' ⟨he, hw⟩ => ⟨he, 0, by subst hw; rfl⟩
    · have HF := Lib.hid (aid.ret_str (itoa_big n (by omega)))
      have IH := Lib.hid (fun w => ih (n / 10) w (by omega) (by omega) (by omega))
      have IQ := Lib.hid (fun x => Calls.quiet_of (IH.out (w.drewN x)))
      clear ih
      have e1 : IntKind.i64.wrap (n % 10 + 1) = n % 10 + 1 := IntWalk.i64_in _ (by omega)
      have hb := txt_size (n / 10) (by omega) (by omega)
      have e2 : 0 ≤ n % 10 := by omega
      have e3 : n % 10 < 10 := by omega
      have e4 : n.tmod 10 = n % 10 := by rw [Int.tmod_eq_emod_of_nonneg h0]
      go_enter Tryd.func86, Tryd.ntmps86
      go_wp2_with fail
      go_quiet ((go_at_call 86; exact IQ.out _))
      go_wp2_with fail
      go_ret
      exact ⟨HF.out, _, rfl⟩

/-- spec.l1Num: the decimal text, for every number that the chapter lets in. -/
theorem num_any (n : Int) (w : World) (h0 : -1000000 ≤ n) (h1 : n ≤ 999999) (h2 : -999999 ≤ n) :
    Calls Tryd.prog 86 #[.int .i64 n] w fun e w' => e = .returned (.string (txt n)) ∧ ∃ j, w' = w.drewN j := by
  by_cases h : n < 0
  · have HF := Lib.hid (aid.ret_str (itoa_minus n h))
    have hb := txt_size (-n) (by omega) (by omega)
    have hc := num_nat 999999 (-n)
    go_enter Tryd.func86, Tryd.ntmps86
    go_wp2_with (go_at_call 86; refine (hc _ (by omega) (by omega) (by omega)).mono ?_; rintro e w' ⟨rfl, j, rfl⟩)
    go_ret
    exact ⟨HF.out, _, rfl⟩
  · exact num_nat 999999 n w (by omega) (by omega) h1

end Go.Proofs.YtedocpocfpopgaaDoor.num
