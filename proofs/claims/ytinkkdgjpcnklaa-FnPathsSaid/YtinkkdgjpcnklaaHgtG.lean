/- impl's fractions: reduceFraction, ClimbRate. -/
import Derived.Test.YtinkkdgjpcnklaaHgtI
import Derived.RegionTactic
import Derived.BigRegion
import Derived.BigQuiet
import Derived.Deep.QuietTactic
import Derived.Outline
namespace Go.Proofs.Ytinkkdgjpcnklaa.hgtg
open Go.RowKit Go.Proofs.Ytinkkdgjpcnklaa.hgt Go.Proofs.Ytinkkdgjpcnklaa.hgti

theorem tmod_nat (u v : Nat) : (u : Int).tmod (v : Int) = ((u % v : Nat) : Int) := rfl
theorem reduce (x : Int) (d : Nat) (w : World) (h0 : -8000000 ≤ x) (h1 : x ≤ 8000000) (hd : 1 ≤ d) (hd2 : d ≤ 86400) :
    Calls Try.prog 59 #[.int .i64 x, .int .i64 (d : Int)] w fun e w' => e = .returned (.tuple #[.int .i64 (x.tdiv (Nat.gcd x.natAbs d : Nat)), .int .i64 ((d / Nat.gcd x.natAbs d : Nat) : Int)]) ∧ ∃ j, w' = w.drewN j := by
  have HG := Lib.hid (Nat.gcd_comm d x.natAbs)
  have HD := Lib.hid (Nat.gcd_le_right x.natAbs (show 0 < d from hd))
  have HP := Lib.hid (Nat.gcd_pos_of_pos_right x.natAbs (show 0 < d from hd))
  go_enter Try.func59, Try.ntmps59
  go_wp2_with fail
  all_goals
    go_loopw [6, 7] (fun a r wr => ∃ u v j : Nat, a = .int .i64 u ∧ r = .int .i64 v ∧ Nat.gcd u v = Nat.gcd x.natAbs d ∧ u ≤ 8000000 ∧ v ≤ 8000000 ∧ wr = w.drewN j) (fun _ r _ => (intOf r).toNat)
    case atStart => exact ⟨d, x.natAbs, 0, rfl, by congr 1; omega, HG.out, by omega, by omega, rfl⟩
    case round =>
      obtain ⟨u, v, j, rfl, rfl, hg, hu, hv, rfl⟩ := hrel
      have HH := Lib.hid hg
      clear hg
      by_cases h2 : v = 0
      · subst h2
        obtain rfl : u = Nat.gcd x.natAbs d := by rw [← HH.out, Nat.gcd_zero_right]
        have hp := HP.out
        have hl := HD.out
        clear HG HD HP HH
        obtain ⟨g, hgE⟩ : ∃ g, Nat.gcd x.natAbs d = g := ⟨_, rfl⟩
        have HGE := Lib.hid hgE
        rw [hgE] at hp hl hu ⊢
        clear hgE
        have hn : (x.tdiv g).natAbs = x.natAbs / (g : Int).natAbs := Int.natAbs_tdiv x g
        have hle := Nat.div_le_self x.natAbs (g : Int).natAbs
        have e5 : IntKind.i64.wrap (x.tdiv g) = x.tdiv g := IntWalk.i64_in _ (by omega)
        have hle2 := Nat.div_le_self d g
        obtain ⟨q, hq⟩ : ∃ q, d / g = q := ⟨_, rfl⟩
        have HQ := Lib.hid hq
        rw [hq] at hle2
        have E6 := Lib.hid (show wrap64 ((d : Int) / (g : Int)) = (q : Int) by
          rw [← Int.natCast_ediv, hq]
          exact IntWalk.wrap64_in _ ⟨by omega, by omega⟩)
        clear hq
        have e7 : ((g : Int) == 0) = false := by simp; omega
        clear hn hle hle2 hu hv
        go_wp2_with fail
        go_quiet (fail)
        go_wp2_with fail
        go_ret2
        exact ⟨(congrArg (fun y => Ending.returned (.tuple #[.int .i64 (x.tdiv g), .int .i64 y])) E6.out).trans (by rw [HGE.out, HQ.out]), _, World.drewN_drewN ..⟩
      · have e1 := tmod_nat u v
        have e2 : ((v : Int) == 0) = false := by simp; omega
        have HW := Lib.hid (show Nat.gcd v (u % v) = Nat.gcd x.natAbs d by rw [Nat.gcd_comm, ← Nat.gcd_rec, Nat.gcd_comm]; exact HH.out)
        have hz := Nat.mod_lt u (show 0 < v by omega)
        clear HG HH
        generalize u % v = z at *
        have HM := Lib.hid (show (intOf (.int .i64 (z : Int))).toNat < (intOf (.int .i64 (v : Int))).toNat from hz)
        go_wp2_with fail
        go_quiet (fail)
        go_wp2_with fail
        go_roundw
        case rel => exact ⟨v, z, _, rfl, rfl, HW.out, hv, by omega, World.drewN_drewN ..⟩
        case measure => exact HM.out

theorem cr_no {a f b t : Int} (e : crB a f b t = false) : Ending.returned (.tuple #[.int .i64 0, .int .i64 0, .bool false]) = .returned (.tuple #[.int .i64 (crN a f b t), .int .i64 (crD a f b t : Int), .bool (crB a f b t)]) := by
  unfold crN crD
  rw [e]
  rfl
theorem cr_yes {a f b t : Int} (e : crB a f b t = true) : Ending.returned (.tuple #[.int .i64 (((b - a) * 60).tdiv (crG a f b t)), .int .i64 (((t - f).toNat / crG a f b t : Nat) : Int), .bool true]) = .returned (.tuple #[.int .i64 (crN a f b t), .int .i64 (crD a f b t : Int), .bool (crB a f b t)]) := by
  unfold crN crD
  rw [e]
  rfl
theorem cr_hs {a f b t : Int} (h : hB a = false ∨ hB b = false) : crB a f b t = false := by
  unfold crB
  rcases h with h | h <;> simp [h]
theorem cr_ts {a f b t : Int} (h : ¬ (0 ≤ f ∧ f < t ∧ t ≤ 86400)) : crB a f b t = false := by
  unfold crB
  rw [decide_eq_false h]
  simp
theorem below_drew {w w' : World} (h : ∃ j, w' = w.drewN j) : Below w.heap.size w w' := by
  obtain ⟨j, rfl⟩ := h
  exact aid.below_drewN (Below.refl _ _) j

end Go.Proofs.Ytinkkdgjpcnklaa.hgtg
