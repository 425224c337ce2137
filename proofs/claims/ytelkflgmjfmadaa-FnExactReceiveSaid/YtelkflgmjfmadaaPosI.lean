/- impl's functions of chapter 7 that take no struct and no list: sizeOf, isCoordinate, firstFrom, leastDifference, coordinateOf; areAll at numbers. -/
import Derived.Test.YtelkflgmjfmadaaPos
import Derived.WalkKit
import Derived.IntWalk
namespace Go.Proofs.Ytelkflgmjfmadaa.posi
open Go.RowKit Go.Proofs.Ytelkflgmjfmadaa.pos Go.Proofs.Ytelkflgmjfmadaa.in_

theorem sizeOf (o : Bool) (w : World) :
    Calls Try.prog 45 #[.bool o] w fun e w' => e = .returned (.int .i64 (sz o)) ∧ w = w' := by
  cases o
  · go_enter Try.func45, Try.ntmps45
    go_wp2
    go_ret
    exact ⟨rfl, rfl⟩
  · go_enter Try.func45, Try.ntmps45
    go_wp2
    go_ret
    exact ⟨rfl, rfl⟩

theorem isCoordinate (x : Int) (w : World) :
    Calls Try.prog 49 #[.int .i64 x] w fun e w' => e = .returned (.bool (isIn x 0 9899)) ∧ w = w' := by
  by_cases h1 : 0 ≤ x
  · have g1 : decide (0 ≤ x) = true := decide_eq_true h1
    by_cases h2 : x ≤ 9899
    · have g2 : decide (x ≤ 9899) = true := decide_eq_true h2
      have e : isIn x 0 9899 = true := decide_eq_true ⟨h1, h2⟩
      rw [e]
      clear h1 h2 e
      go_enter Try.func49, Try.ntmps49
      go_wp2
      go_ret
      exact ⟨rfl, rfl⟩
    · have g2 : decide (x ≤ 9899) = false := decide_eq_false h2
      have e : isIn x 0 9899 = false := decide_eq_false (fun h => h2 h.2)
      rw [e]
      clear h1 h2 e
      go_enter Try.func49, Try.ntmps49
      go_wp2
      go_ret
      exact ⟨rfl, rfl⟩
  · have g1 : decide (0 ≤ x) = false := decide_eq_false h1
    have e : isIn x 0 9899 = false := decide_eq_false (fun h => h1 h.1)
    rw [e]
    clear h1 e
    go_enter Try.func49, Try.ntmps49
    go_wp2
    go_ret
    exact ⟨rfl, rfl⟩

theorem firstFrom (lo r s : Int) (hs : s = 99 ∨ s = 100) (hr : 0 ≤ r ∧ r < s) (hl : 0 ≤ lo ∧ lo ≤ 20000) (w : World) :
    Calls Try.prog 54 #[.int .i64 lo, .int .i64 r, .int .i64 s] w fun e w' => e = .returned (.int .i64 (first lo r s)) ∧ w = w' := by
  obtain ⟨l0, l1⟩ := hl
  obtain ⟨r0, r1⟩ := hr
  unfold first
  rcases hs with rfl | rfl
  · rw [show lo + (r - lo % 99 + 99) % 99 = lo + (r - lo) % 99 by omega]
    go_enter Try.func54, Try.ntmps54
    go_wp2
    go_ret
    exact ⟨rfl, rfl⟩
  · rw [show lo + (r - lo % 100 + 100) % 100 = lo + (r - lo) % 100 by omega]
    go_enter Try.func54, Try.ntmps54
    go_wp2
    go_ret
    exact ⟨rfl, rfl⟩

theorem coordinateOf (a b : Int) (ha : 0 ≤ a ∧ a < 100) (hb : 0 ≤ b ∧ b < 99) (w : World) :
    Calls Try.prog 52 #[.int .i64 a, .int .i64 b] w fun e w' => e = .returned (.int .i64 (both a b)) ∧ w = w' := by
  obtain ⟨a0, a1⟩ := ha
  obtain ⟨b0, b1⟩ := hb
  rw [show both a b = a + 100 * ((b - a) % 99) by unfold both; omega]
  go_enter Try.func52, Try.ntmps52
  go_wp2
  go_ret
  exact ⟨rfl, rfl⟩

theorem leastDifference (n r s : Int) (hs : s = 99 ∨ s = 100) (hr : 0 ≤ r ∧ r < s) (hn : 0 ≤ n ∧ n ≤ 9899) (w : World) :
    Calls Try.prog 53 #[.int .i64 n, .int .i64 r, .int .i64 s] w fun e w' => e = .returned (.int .i64 (ld n r s)) ∧ w = w' := by
  have F := Lib.hid (fun w => firstFrom n r s hs hr ⟨hn.1, by omega⟩ w)
  have h1 := first_ge (lo := n) hs hr
  obtain ⟨n0, n1⟩ := hn
  have s0 : 99 ≤ s := by omega
  have s1 : s ≤ 100 := by omega
  unfold ld
  generalize first n r s = f at *
  obtain ⟨f0, f1⟩ := h1
  have I1 := Lib.hid (fun w => isCoordinate (f - s) w)
  have I2 := Lib.hid (fun w => isCoordinate f w)
  clear hs hr
  by_cases c1 : 0 ≤ f - s ∧ f - s ≤ 9899
  · have e1 : isIn (f - s) 0 9899 = true := decide_eq_true c1
    rw [if_neg (by omega)]
    rw [e1] at I1
    by_cases c2 : 0 ≤ f ∧ f ≤ 9899
    · have e2 : isIn f 0 9899 = true := decide_eq_true c2
      rw [if_neg (by omega)]
      rw [e2] at I2
      clear e1 e2
      obtain ⟨c10, c11⟩ := c1
      obtain ⟨c20, c21⟩ := c2
      go_enter Try.func53, Try.ntmps53
      go_wp2_with fail
      refine (F.out _).mono ?_
      rintro e w' ⟨rfl, rfl⟩
      go_wp2_with fail
      refine (I1.out _).mono ?_
      rintro e w' ⟨rfl, rfl⟩
      go_wp2_with fail
      refine (I2.out _).mono ?_
      rintro e w' ⟨rfl, rfl⟩
      by_cases hm : n - (f - s) < f - n
      · have HM := Lib.hid (show min (f - n) (n - (f - s)) = n - (f - s) by omega)
        go_wp2_with fail
        go_ret
        exact ⟨by rw [HM.out]; rfl, rfl⟩
      · have HM := Lib.hid (show min (f - n) (n - (f - s)) = f - n by omega)
        go_wp2_with fail
        go_ret
        exact ⟨by rw [HM.out]; rfl, rfl⟩
    · have e2 : isIn f 0 9899 = false := decide_eq_false c2
      rw [if_pos (by omega)]
      rw [e2] at I2
      clear e1 e2 c2
      obtain ⟨c10, c11⟩ := c1
      go_enter Try.func53, Try.ntmps53
      go_wp2_with fail
      refine (F.out _).mono ?_
      rintro e w' ⟨rfl, rfl⟩
      go_wp2_with fail
      refine (I1.out _).mono ?_
      rintro e w' ⟨rfl, rfl⟩
      go_wp2_with fail
      refine (I2.out _).mono ?_
      rintro e w' ⟨rfl, rfl⟩
      go_wp2_with fail
      go_ret
      exact ⟨rfl, rfl⟩
  · have e1 : isIn (f - s) 0 9899 = false := decide_eq_false c1
    rw [if_pos (by omega)]
    rw [e1] at I1
    clear e1 c1
    go_enter Try.func53, Try.ntmps53
    go_wp2_with fail
    refine (F.out _).mono ?_
    rintro e w' ⟨rfl, rfl⟩
    go_wp2_with fail
    refine (I1.out _).mono ?_
    rintro e w' ⟨rfl, rfl⟩
    go_wp2_with fail
    go_ret
    exact ⟨rfl, rfl⟩

/-- areAll at two numbers. -/
theorem areAll2 (x y : Int) (b : Nat) (w : World) (c0 : w.cell? ⟨b, 0, none⟩ = some (.int .i64 x)) (c1 : w.cell? ⟨b, 1, none⟩ = some (.int .i64 y)) :
    Calls Try.prog 48 #[.func (.func 49) #[] #[], .slice (some ⟨b, 0, none⟩) 2 2] w fun e w' => e = .returned (.bool (pB x y)) ∧ w = w' := by
  have I1 := Lib.hid (fun w => isCoordinate x w)
  have I2 := Lib.hid (fun w => isCoordinate y w)
  unfold pB
  generalize isIn x 0 9899 = p at *
  generalize isIn y 0 9899 = q at *
  go_enter Try.func48, Try.ntmps48
  go_wp2
  go_loop [9] (fun i => i = .int .i64 0 ∨ (i = .int .i64 1 ∧ p = true) ∨ (i = .int .i64 2 ∧ p = true ∧ q = true)) (fun i => 2 - (intOf i).toNat)
  case atStart => exact Or.inl rfl
  case round =>
    rcases hrel with rfl | ⟨rfl, rfl⟩ | ⟨rfl, rfl, rfl⟩
    · go_wp2_with fail
      refine (I1.out _).mono ?_
      rintro e w' ⟨rfl, rfl⟩
      cases p
      · go_wp2_with fail
        go_ret
        exact ⟨rfl, rfl⟩
      · go_wp2_with fail
        go_round
        case rel => simp
        case measure => simp [intOf]
    · go_wp2_with fail
      refine (I2.out _).mono ?_
      rintro e w' ⟨rfl, rfl⟩
      cases q
      · go_wp2_with fail
        go_ret
        exact ⟨rfl, rfl⟩
      · go_wp2_with fail
        go_round
        case rel => simp
        case measure => simp [intOf]
    · go_wp2_with fail
      go_ret
      exact ⟨rfl, rfl⟩
end Go.Proofs.Ytelkflgmjfmadaa.posi
