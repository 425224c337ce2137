/- impl's height codes: contracts. -/
import Derived.Test.YtinkkdgjpcnklaaHgtM
import Derived.Test.YtinkkdgjpcnklaaPop
import Derived.IntWalk
namespace Go.Proofs.Ytinkkdgjpcnklaa.hgti
open Go.RowKit Go.Proofs.Ytinkkdgjpcnklaa.hgt Go.Proofs.Ytinkkdgjpcnklaa.bin Go.Proofs.Ytinkkdgjpcnklaa.hgtm

theorem xor_nat_i (x y : Nat) (hx : x < 9223372036854775808) (hy : y < 9223372036854775808) : bits .xor .i64 (x : Int) (y : Int) = ((x ^^^ y : Nat) : Int) := by
  have e : bits .xor .i64 (x : Int) (y : Int) = IntKind.i64.wrap ((BitVec.ofInt 64 (x : Int) ^^^ BitVec.ofInt 64 (y : Int)).toNat : Int) := rfl
  rw [e, BitVec.toNat_xor, BitVec.ofInt_natCast, BitVec.ofInt_natCast, BitVec.toNat_ofNat, BitVec.toNat_ofNat, Nat.mod_eq_of_lt (by omega), Nat.mod_eq_of_lt (by omega)]
  have := Nat.xor_lt_two_pow (n := 63) hx hy
  exact IntWalk.i64_in _ (by omega)
theorem or_nat_i (x y : Nat) (hx : x < 9223372036854775808) (hy : y < 9223372036854775808) : bits .or .i64 (x : Int) (y : Int) = ((x ||| y : Nat) : Int) := by
  have e : bits .or .i64 (x : Int) (y : Int) = IntKind.i64.wrap ((BitVec.ofInt 64 (x : Int) ||| BitVec.ofInt 64 (y : Int)).toNat : Int) := rfl
  rw [e, BitVec.toNat_or, BitVec.ofInt_natCast, BitVec.ofInt_natCast, BitVec.toNat_ofNat, BitVec.toNat_ofNat, Nat.mod_eq_of_lt (by omega), Nat.mod_eq_of_lt (by omega)]
  have := Nat.or_lt_two_pow (n := 63) hx hy
  exact IntWalk.i64_in _ (by omega)

theorem isHeight (h : Int) (w : World) :
    Calls Try.prog 57 #[.int .i64 h] w fun e w' => e = .returned (.bool (hB h)) ∧ w = w' := by
  by_cases h1 : -2000 ≤ h
  · have g1 : decide (-2000 ≤ h) = true := decide_eq_true h1
    by_cases h2 : h ≤ 130000
    · have g2 : decide (h ≤ 130000) = true := decide_eq_true h2
      have e : hB h = true := decide_eq_true ⟨h1, h2⟩
      rw [e]
      clear h1 h2 e
      go_enter Try.func57, Try.ntmps57
      go_wp2
      go_ret
      exact ⟨rfl, rfl⟩
    · have g2 : decide (h ≤ 130000) = false := decide_eq_false h2
      have e : hB h = false := decide_eq_false (fun x => h2 x.2)
      rw [e]
      clear h1 h2 e
      go_enter Try.func57, Try.ntmps57
      go_wp2
      go_ret
      exact ⟨rfl, rfl⟩
  · have g1 : decide (-2000 ≤ h) = false := decide_eq_false h1
    have e : hB h = false := decide_eq_false (fun x => h1 x.1)
    rw [e]
    clear h1 e
    go_enter Try.func57, Try.ntmps57
    go_wp2
    go_ret
    exact ⟨rfl, rfl⟩

end Go.Proofs.Ytinkkdgjpcnklaa.hgti
