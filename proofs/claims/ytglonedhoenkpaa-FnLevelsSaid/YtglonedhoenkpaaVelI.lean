/- impl's functions of chapter 8 on one velocity: isSpeed, areAll at numbers, IsValidVelocity, isMoving, squaredSpeed, packValue, unpackValue, absoluteOf, isAlong. -/
import Derived.Test.YtglonedhoenkpaaVel
import Derived.Test.YtglonedhoenkpaaPosB
import Derived.Test.YtglonedhoenkpaaAtS
import Derived.WalkKit
import Derived.IntWalk
import Derived.RegionTactic
import Derived.BigRegion
import Derived.ChangeAlike
namespace Go.Proofs.Ytglonedhoenkpaa.veli
open Go.RowKit Go.Proofs.Ytglonedhoenkpaa.vel Go.Proofs.Ytglonedhoenkpaa.in_ Go.Proofs.Ytglonedhoenkpaa.ats

theorem isSpeed (x : Int) (w : World) :
    Calls Try.prog 91 #[.int .i64 x] w fun e w' => e = .returned (.bool (isIn x (-200) 200)) ∧ w = w' := by
  by_cases h1 : -200 ≤ x
  · have g1 : decide (-200 ≤ x) = true := decide_eq_true h1
    by_cases h2 : x ≤ 200
    · have g2 : decide (x ≤ 200) = true := decide_eq_true h2
      have e : isIn x (-200) 200 = true := decide_eq_true ⟨h1, h2⟩
      rw [e]
      clear h1 h2 e
      go_enter Try.func91, Try.ntmps91
      go_wp2
      go_ret
      exact ⟨rfl, rfl⟩
    · have g2 : decide (x ≤ 200) = false := decide_eq_false h2
      have e : isIn x (-200) 200 = false := decide_eq_false (fun h => h2 h.2)
      rw [e]
      clear h1 h2 e
      go_enter Try.func91, Try.ntmps91
      go_wp2
      go_ret
      exact ⟨rfl, rfl⟩
  · have g1 : decide (-200 ≤ x) = false := decide_eq_false h1
    have e : isIn x (-200) 200 = false := decide_eq_false (fun h => h1 h.1)
    rw [e]
    clear h1 e
    go_enter Try.func91, Try.ntmps91
    go_wp2
    go_ret
    exact ⟨rfl, rfl⟩

/-- areAll at two numbers. -/
theorem areAll2 (x y : Int) (b : Nat) (w : World) (c0 : w.cell? ⟨b, 0, none⟩ = some (.int .i64 x)) (c1 : w.cell? ⟨b, 1, none⟩ = some (.int .i64 y)) :
    Calls Try.prog 84 #[.func (.func 91) #[] #[], .slice (some ⟨b, 0, none⟩) 2 2] w fun e w' => e = .returned (.bool (vB x y)) ∧ w = w' := by
  have I1 := Lib.hid (fun w => isSpeed x w)
  have I2 := Lib.hid (fun w => isSpeed y w)
  unfold vB
  generalize isIn x (-200) 200 = p at *
  generalize isIn y (-200) 200 = q at *
  go_enter Try.func84, Try.ntmps84
  go_wp2
  go_loop [9] (fun i => i = .int .i64 0 ∨ (i = .int .i64 1 ∧ p = true) ∨ (i = .int .i64 2 ∧ p = true ∧ q = true)) (fun i => 2 - (intOf i).toNat)
  case atStart => exact Or.inl rfl
  case round =>
    rcases hrel with rfl | ⟨rfl, rfl⟩ | ⟨rfl, rfl, rfl⟩
    · go_wp2_with fail
      refine (I1.out _).mono ?_
      rintro e w' ⟨rfl, rfl⟩
      cases p
      · go_wp2_with fail
        go_ret
        exact ⟨rfl, rfl⟩
      · go_wp2_with fail
        go_round
        case rel => simp
        case measure => simp [intOf]
    · go_wp2_with fail
      refine (I2.out _).mono ?_
      rintro e w' ⟨rfl, rfl⟩
      cases q
      · go_wp2_with fail
        go_ret
        exact ⟨rfl, rfl⟩
      · go_wp2_with fail
        go_round
        case rel => simp
        case measure => simp [intOf]
    · go_wp2_with fail
      go_ret
      exact ⟨rfl, rfl⟩
theorem areAll_new (x y : Int) (W : World) (b : Nat) (hb : W.heap.size = b) :
    Calls Try.prog 84 #[.func (.func 91) #[] #[], .slice (some ⟨b, 0, none⟩) 2 2] (W.alloc (.cells #[.int .i64 x, .int .i64 y] 3)) fun e w' => e = .returned (.bool (vB x y)) ∧ W.alloc (.cells #[.int .i64 x, .int .i64 y] 3) = w' := by
  subst hb
  exact areAll2 x y _ _ ((newS 3 #[.int .i64 x, .int .i64 y] W).cell 0) ((newS 3 #[.int .i64 x, .int .i64 y] W).cell 1)
theorem isValidVelocity (x y : Int) (w : World) :
    Calls Try.prog 89 #[.agg #[.int .i64 x, .int .i64 y]] w fun e w' => e = .returned (.bool (vB x y)) ∧ Below w.heap.size w w' := by
  have S := Lib.hid (fun (W : World) (b : Nat) (hb : W.heap.size = b) => areAll_new x y W b hb)
  have B0 := Lib.hid (newS 50 #[.int .i64 x, .int .i64 y] w)
  have HZ := Lib.hid (show (w.alloc (.cells #[.int .i64 x, .int .i64 y] 50)).heap.size = w.heap.size + 1 by rw [World.size_alloc])
  generalize vB x y = p at *
  go_enter Try.func89, Try.ntmps89
  go_wp2_with fail
  generalize w.alloc (.cells #[.int .i64 x, .int .i64 y] 50) = W at *
  have HB := Lib.hid (B0.out.1.trans ((newS 3 #[.int .i64 x, .int .i64 y] W).1.mono B0.out.1.size))
  refine (S.out W _ HZ.out).mono ?_
  rintro e w1 ⟨rfl, rfl⟩
  go_wp2_with fail
  go_ret
  exact ⟨rfl, HB.out⟩

theorem isMoving (x y : Int) (w : World) :
    Calls Try.prog 78 #[.agg #[.int .i64 x, .int .i64 y]] w fun e w' => e = .returned (.bool (mB x y)) ∧ Below w.heap.size w w' := by
  have HV := Lib.hid (fun w => isValidVelocity x y w)
  have B0 := Lib.hid (newS 50 #[.int .i64 x, .int .i64 y] w)
  unfold mB
  have e1 : (x == 0) = decide (x = 0) := by rfl
  have e2 : (y == 0) = decide (y = 0) := by rfl
  generalize vB x y = p at *
  generalize h1 : decide (x = 0) = q1 at *
  generalize h2 : decide (y = 0) = q2 at *
  clear h1 h2
  go_enter Try.func78, Try.ntmps78
  go_wp2_with fail
  generalize w.alloc (.cells #[.int .i64 x, .int .i64 y] 50) = W at *
  refine (HV.out _).mono ?_
  rintro e w1 ⟨rfl, hb1⟩
  have B1 := Lib.hid (B0.out.old hb1)
  have c0 : w1.cell? ⟨w.heap.size, 0, none⟩ = some (.int .i64 x) := B1.out.cell 0
  have c1 : w1.cell? ⟨w.heap.size, 1, none⟩ = some (.int .i64 y) := B1.out.cell 1
  clear hb1 B0
  cases p
  · go_wp2_with fail
    go_ret
    exact ⟨rfl, B1.out.1⟩
  · cases q1
    · go_wp2_with fail
      go_ret
      exact ⟨rfl, B1.out.1⟩
    · cases q2
      · go_wp2_with fail
        go_ret
        exact ⟨rfl, B1.out.1⟩
      · go_wp2_with fail
        go_ret
        exact ⟨rfl, B1.out.1⟩

theorem or10 {n : Int} (hn : 0 ≤ n ∧ n < 1024) : bits .or .i64 1024 n = 1024 + n := by
  obtain ⟨n, rfl⟩ := Int.eq_ofNat_of_zero_le hn.1
  have := posb.or_low 10 1 n (by omega) (by omega) (by omega)
  rw [show (2 : Nat) ^ 10 * 1 = 1024 from rfl] at this
  rw [show (1024 : Int) = ((1024 : Nat) : Int) from rfl, this]
  omega
theorem or11 {a b : Int} (ha : 0 ≤ a ∧ a < 2048) (hb : 0 ≤ b ∧ b < 2048) : bits .or .i64 (a * 2048) b = a * 2048 + b := by
  obtain ⟨n, rfl⟩ := Int.eq_ofNat_of_zero_le ha.1
  obtain ⟨m, rfl⟩ := Int.eq_ofNat_of_zero_le hb.1
  have := posb.or_low 11 n m (by omega) (by omega) (by omega)
  rw [show (2 : Nat) ^ 11 = 2048 from rfl] at this
  rw [show (n : Int) * (2048 : Int) = ((2048 * n : Nat) : Int) by omega, this]
  omega
theorem and1023 (x : Int) : bits .and .i64 x 1023 = x % 1024 := posb.and_mask x 10 (by omega)
theorem and_one10 (n : Nat) : n &&& 2 ^ 10 = (n / 1024 % 2) * 1024 := by
  apply Nat.eq_of_testBit_eq
  intro i
  rw [Nat.testBit_and, Nat.testBit_two_pow]
  have : (n / 1024 % 2) = 0 ∨ (n / 1024 % 2) = 1 := by omega
  by_cases h : 10 = i
  · subst h
    rw [Nat.testBit_eq_decide_div_mod_eq, Nat.testBit_eq_decide_div_mod_eq]
    simp
  · rcases this with h2 | h2
    · rw [h2]; simp [h]
    · rw [h2, Nat.one_mul, show (1024 : Nat) = 2 ^ 10 from rfl, Nat.testBit_two_pow]; simp [h]
theorem and1024 (x : Int) : bits .and .i64 x 1024 = (x / 1024) % 2 * 1024 := by
  have e : bits .and .i64 x 1024 = IntKind.i64.wrap ((BitVec.ofInt 64 x &&& BitVec.ofInt 64 1024).toNat : Int) := rfl
  rw [e, BitVec.toNat_and, BitVec.toNat_ofInt]
  have h2 : (BitVec.ofInt 64 1024).toNat = 2 ^ 10 := by decide
  rw [h2, and_one10]
  have hx : ((x % ((2 ^ 64 : Nat) : Int)).toNat : Int) = x % 18446744073709551616 := by omega
  generalize (x % ((2 ^ 64 : Nat) : Int)).toNat = n at *
  have hm : ((n / 1024 % 2 : Nat) : Int) = (x / 1024) % 2 := by omega
  rw [IntWalk.i64_in _ (by omega), Int.natCast_mul, hm]
  rfl

theorem absoluteOf (x : Int) (hx : -200 ≤ x ∧ x ≤ 200) (w : World) :
    Calls Try.prog 72 #[.int .i64 x] w fun e w' => e = .returned (.int .i64 (ab x)) ∧ w = w' := by
  obtain ⟨x0, x1⟩ := hx
  unfold ab
  by_cases h : x < 0
  · have hm : x < -x := by omega
    rw [if_pos h]
    go_enter Try.func72, Try.ntmps72
    go_wp2
    all_goals
      go_ret
      first | exact ⟨rfl, rfl⟩ | (exfalso; omega)
  · have hm : ¬ x < -x := by omega
    have g : decide (x < -x) = false := decide_eq_false hm
    rw [if_neg h]
    go_enter Try.func72, Try.ntmps72
    go_wp2
    all_goals
      go_ret
      first | exact ⟨rfl, rfl⟩ | (exfalso; omega)

theorem self_le4 {s : Int} (h : 0 ≤ s ∧ s ≤ 400) : 0 ≤ s * s ∧ s * s ≤ 160000 := by
  have h2 : s.natAbs * s.natAbs ≤ 400 * 400 := Nat.mul_le_mul (by omega) (by omega)
  rw [← Int.natAbs_mul] at h2
  have h3 := self_nonneg s
  omega
end Go.Proofs.Ytglonedhoenkpaa.veli
