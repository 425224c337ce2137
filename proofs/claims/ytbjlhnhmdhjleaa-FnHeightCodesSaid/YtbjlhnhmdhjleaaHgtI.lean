/- impl's height codes: contracts. -/
import Derived.Test.YtbjlhnhmdhjleaaHgtM
import Derived.Test.YtbjlhnhmdhjleaaPop
import Derived.IntWalk
namespace Go.Proofs.Ytbjlhnhmdhjleaa.hgti
open Go.RowKit Go.Proofs.Ytbjlhnhmdhjleaa.hgt Go.Proofs.Ytbjlhnhmdhjleaa.bin Go.Proofs.Ytbjlhnhmdhjleaa.hgtm

theorem xor_nat_i (x y : Nat) (hx : x < 9223372036854775808) (hy : y < 9223372036854775808) : bits .xor .i64 (x : Int) (y : Int) = ((x ^^^ y : Nat) : Int) := by
  have e : bits .xor .i64 (x : Int) (y : Int) = IntKind.i64.wrap ((BitVec.ofInt 64 (x : Int) ^^^ BitVec.ofInt 64 (y : Int)).toNat : Int) := rfl
  rw [e, BitVec.toNat_xor, BitVec.ofInt_natCast, BitVec.ofInt_natCast, BitVec.toNat_ofNat, BitVec.toNat_ofNat, Nat.mod_eq_of_lt (by omega), Nat.mod_eq_of_lt (by omega)]
  have := Nat.xor_lt_two_pow (n := 63) hx hy
  exact IntWalk.i64_in _ (by omega)
theorem or_nat_i (x y : Nat) (hx : x < 9223372036854775808) (hy : y < 9223372036854775808) : bits .or .i64 (x : Int) (y : Int) = ((x ||| y : Nat) : Int) := by
  have e : bits .or .i64 (x : Int) (y : Int) = IntKind.i64.wrap ((BitVec.ofInt 64 (x : Int) ||| BitVec.ofInt 64 (y : Int)).toNat : Int) := rfl
  rw [e, BitVec.toNat_or, BitVec.ofInt_natCast, BitVec.ofInt_natCast, BitVec.toNat_ofNat, BitVec.toNat_ofNat, Nat.mod_eq_of_lt (by omega), Nat.mod_eq_of_lt (by omega)]
  have := Nat.or_lt_two_pow (n := 63) hx hy
  exact IntWalk.i64_in _ (by omega)

theorem isHeight (h : Int) (w : World) :
    Calls Try.prog 34 #[.int .i64 h] w fun e w' => e = .returned (.bool (hB h)) ∧ w = w' := by
  by_cases h1 : -2000 ≤ h
  · have g1 : decide (-2000 ≤ h) = true := decide_eq_true h1
    by_cases h2 : h ≤ 130000
    · have g2 : decide (h ≤ 130000) = true := decide_eq_true h2
      have e : hB h = true := decide_eq_true ⟨h1, h2⟩
      rw [e]
      clear h1 h2 e
      go_enter Try.func34, Try.ntmps34
      go_wp2
      go_ret
      exact ⟨rfl, rfl⟩
    · have g2 : decide (h ≤ 130000) = false := decide_eq_false h2
      have e : hB h = false := decide_eq_false (fun x => h2 x.2)
      rw [e]
      clear h1 h2 e
      go_enter Try.func34, Try.ntmps34
      go_wp2
      go_ret
      exact ⟨rfl, rfl⟩
  · have g1 : decide (-2000 ≤ h) = false := decide_eq_false h1
    have e : hB h = false := decide_eq_false (fun x => h1 x.1)
    rw [e]
    clear h1 e
    go_enter Try.func34, Try.ntmps34
    go_wp2
    go_ret
    exact ⟨rfl, rfl⟩

theorem gray_yes (k : Nat) (hk : k < 2048) (w : World) :
    Calls Try.prog 20 #[.int .i64 (k : Int)] w fun e w' => e = .returned (.tuple #[.int .i64 (gray k : Int), .bool true]) ∧ w = w' := by
  have e1 : bits .xor .i64 (k : Int) ((k : Int) / 2) = (gray k : Int) := by
    rw [show ((k : Int) / 2) = ((k / 2 : Nat) : Int) by omega]
    exact xor_nat_i k (k / 2) (by omega) (by omega)
  have h1 : (k : Int) ≤ 2047 := by omega
  generalize gray k = g at *
  clear hk
  go_enter Try.func20, Try.ntmps20
  go_wp2_with fail
  go_ret2
  exact ⟨rfl, rfl⟩
theorem grayOf (n : Int) (w : World) :
    Calls Try.prog 20 #[.int .i64 n] w fun e w' => e = .returned (.tuple #[.int .i64 (grV n : Int), .bool (grB n)]) ∧ w = w' := by
  by_cases h : 0 ≤ n ∧ n ≤ 2047
  · obtain ⟨k, rfl⟩ := Int.eq_ofNat_of_zero_le h.1
    obtain ⟨e1, e2, _⟩ := gr_yes (k := k) (by omega)
    rw [e1, e2]
    exact gray_yes k (by omega) w
  · obtain ⟨e1, e2, _⟩ := gr_no h
    rw [e1, e2]
    clear e1 e2
    by_cases h0 : n < 0
    · clear h
      go_enter Try.func20, Try.ntmps20
      go_wp2_with fail
      go_ret2
      exact ⟨rfl, rfl⟩
    · have h1 : 2047 < n := by omega
      clear h
      go_enter Try.func20, Try.ntmps20
      go_wp2_with fail
      go_ret2
      exact ⟨rfl, rfl⟩

theorem un_yes (k : Nat) (hk : k < 2048) (w : World) :
    Calls Try.prog 22 #[.int .i64 (k : Int)] w fun e w' => e = .returned (.tuple #[.int .i64 (un k : Int), .bool true]) ∧ w = w' := by
  have h1 : (k : Int) ≤ 2047 := by omega
  have HU := Lib.hid (show unA 11 k 0 = un k from rfl)
  generalize un k = u at *
  go_enter Try.func22, Try.ntmps22
  go_wp2_with fail
  go_loop [0, 4] (fun g n => ∃ f x a : Nat, g = .int .i64 x ∧ n = .int .i64 a ∧ x < 2 ^ f ∧ x < 2048 ∧ a < 2048 ∧ unA f x a = u) (fun g _ => (intOf g).toNat)
  case atStart => exact ⟨11, k, 0, rfl, rfl, hk, hk, by omega, HU.out⟩
  case round =>
    obtain ⟨f, x, a, rfl, rfl, hf, hx, ha, hu⟩ := hrel
    have HF := Lib.hid hf
    have HV := Lib.hid hu
    clear hf hu HU
    by_cases h0 : 0 < x
    · have e1 : bits .xor .i64 (a : Int) (x : Int) = ((a ^^^ x : Nat) : Int) := xor_nat_i a x (by omega) (by omega)
      have hy := Nat.xor_lt_two_pow (n := 11) (show a < 2 ^ 11 from ha) (show x < 2 ^ 11 from hx)
      obtain ⟨f, rfl⟩ : ∃ g, f = g + 1 := ⟨f - 1, by have := HF.out; cases f with | zero => simp at this; omega | succ f => rfl⟩
      have HW := Lib.hid (show unA f (x / 2) (a ^^^ x) = u from HV.out)
      clear HV
      generalize a ^^^ x = y at *
      have e2 : (x : Int) / 2 = ((x / 2 : Nat) : Int) := by omega
      have hz : x / 2 < x := by omega
      have HP := Lib.hid (show x / 2 < 2 ^ f by have := HF.out; rw [Nat.pow_succ] at this; omega)
      have HM := Lib.hid (show (intOf (.int .i64 ((x / 2 : Nat) : Int))).toNat < (intOf (.int .i64 (x : Int))).toNat from hz)
      have hx2 : x / 2 < 2048 := by omega
      have h0' : (0 : Int) < (x : Int) := by omega
      clear hx hz h0
      generalize x / 2 = z at *
      go_wp2_with fail
      go_round
      case rel => exact ⟨f, z, y, rfl, rfl, HP.out, hx2, hy, HW.out⟩
      case measure => exact HM.out
    · obtain rfl : x = 0 := by omega
      obtain rfl : a = u := by rw [← HV.out, unA_zero]
      go_wp2_with fail
      go_ret2
      exact ⟨rfl, rfl⟩
theorem fromGray (n : Int) (w : World) :
    Calls Try.prog 22 #[.int .i64 n] w fun e w' => e = .returned (.tuple #[.int .i64 (ugV n : Int), .bool (grB n)]) ∧ w = w' := by
  by_cases h : 0 ≤ n ∧ n ≤ 2047
  · obtain ⟨k, rfl⟩ := Int.eq_ofNat_of_zero_le h.1
    obtain ⟨e1, _, e2⟩ := gr_yes (k := k) (by omega)
    rw [e1, e2]
    exact un_yes k (by omega) w
  · obtain ⟨e1, _, e2⟩ := gr_no h
    rw [e1, e2]
    clear e1 e2
    by_cases h0 : n < 0
    · clear h
      go_enter Try.func22, Try.ntmps22
      go_wp2_with fail
      go_ret2
      exact ⟨rfl, rfl⟩
    · have h1 : 2047 < n := by omega
      clear h
      go_enter Try.func22, Try.ntmps22
      go_wp2_with fail
      go_ret2
      exact ⟨rfl, rfl⟩
end Go.Proofs.Ytbjlhnhmdhjleaa.hgti
