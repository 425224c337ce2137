/- Mathematics of the law FnClocks: no more than half of the pairs lie below the median, and no more than half above. The laws' rSize. -/
import Derived.Test.YtndogafihaooiaaInsr
import Derived.Test.YtndogafihaooiaaClkI
namespace Go.Proofs.Ytndogafihaooiaa.clkg
open Go.RowKit Go.Proofs.Ytndogafihaooiaa.lst Go.Proofs.Ytndogafihaooiaa.in_ Go.Proofs.Ytndogafihaooiaa.clk Go.Proofs.Ytndogafihaooiaa.insr

/-- How many of the first k differences are smaller than o. -/
def lwT (zs : List Int) (o : Int) : Nat → Nat
  | 0 => 0
  | k + 1 => if df zs k < o then lwT zs o k + 1 else lwT zs o k
theorem lw_yes {zs : List Int} {o : Int} {k : Nat} (h : df zs k < o) : lwT zs o (k + 1) = lwT zs o k + 1 := by rw [lwT, if_pos h]
theorem lw_no {zs : List Int} {o : Int} {k : Nat} (h : ¬ df zs k < o) : lwT zs o (k + 1) = lwT zs o k := by rw [lwT, if_neg h]
theorem lw_le (zs : List Int) (o : Int) (k : Nat) : lwT zs o k ≤ k := by
  induction k with
  | zero => exact Nat.le_refl _
  | succ k ih =>
    by_cases h : df zs k < o
    · rw [lw_yes h]; omega
    · rw [lw_no h]; omega
theorem lw_count (zs : List Int) (o : Int) (n : Nat) : lwT zs o n = (srL zs n).countP (· < o) := by
  unfold srL
  rw [(rising_perm (dfL zs n)).countP_eq]
  induction n with
  | zero => rfl
  | succ n ih =>
    rw [dfL_succ, List.countP_append]
    by_cases h : df zs n < o
    · rw [lw_yes h, ih]; simp [h]
    · rw [lw_no h, ih]; simp [h]
theorem lw_half {zs : List Int} {n : Nat} (h0 : 0 < n) : 2 * lwT zs (mdT zs n) n ≤ n ∧ 2 * (n - lwT zs (mdT zs n + 1) n) ≤ n := by
  have hl := srL_length zs n
  have hp : (srL zs n).Pairwise (fun x y => x ≤ y) := rising_le _
  have h1 := (count_le hp (mdT zs n)).1 ((n - 1) / 2)
  have h2 := (count_le hp (mdT zs n + 1)).2 ((n - 1) / 2)
  have e : (srL zs n).getD ((n - 1) / 2) 0 = mdT zs n := rfl
  rw [e, ← lw_count] at h1 h2
  have a1 : ¬ (n - 1) / 2 < lwT zs (mdT zs n) n := fun h => by have := h1 h; omega
  have a2 : ¬ lwT zs (mdT zs n + 1) n ≤ (n - 1) / 2 := fun h => by have := h2 h (by omega); omega
  omega
theorem size (x : Int) (w : World) (h0 : -8000000 ≤ x) (h1 : x ≤ 8000000) :
    Calls Try.prog 23 #[.int .i64 x] w fun e w' => e = .returned (.int .i64 (x.natAbs : Int)) ∧ w = w' := by
  by_cases h : x < 0
  · rw [show (x.natAbs : Int) = -x by omega]
    go_enter Try.func23, Try.ntmps23
    go_wp2_with fail
    go_ret
    exact ⟨rfl, rfl⟩
  · rw [show (x.natAbs : Int) = x by omega]
    go_enter Try.func23, Try.ntmps23
    go_wp2_with fail
    go_ret
    exact ⟨rfl, rfl⟩
end Go.Proofs.Ytndogafihaooiaa.clkg
