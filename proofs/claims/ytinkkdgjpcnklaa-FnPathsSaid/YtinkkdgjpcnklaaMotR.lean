/- impl's and spec's fractions in lowest terms, at numbers up to a thousand millions; functions with four results. -/
import Derived.Test.YtinkkdgjpcnklaaHgt
import Derived.Test.YtinkkdgjpcnklaaAid
import Derived.IntWalk
import Derived.OwnWalk
import Derived.RegionTactic
import Derived.BigRegion
import Derived.BigQuiet
import Derived.Deep.QuietTactic
import Derived.Outline
namespace Go.Proofs.Ytinkkdgjpcnklaa.motr
open Go.RowKit Go.Proofs.Ytinkkdgjpcnklaa.hgt

theorem results_tmp4 {fn : Func} {t u v z : Tmp} (h : fn.results = #[.tmp t, .tmp u, .tmp v, .tmp z]) (tmps : Array Value) (P : Program) (w : World) :
    (results fn tmps).run P w = .ok (.tuple #[tmps.getD t undef, tmps.getD u undef, tmps.getD v undef, tmps.getD z undef]) w := by
  simp [results, h]
theorem tmod_nat (u v : Nat) : (u : Int).tmod (v : Int) = ((u % v : Nat) : Int) := rfl
theorem below_drew {w w' : World} (h : ∃ j, w' = w.drewN j) : Below w.heap.size w w' := by
  obtain ⟨j, rfl⟩ := h
  exact aid.below_drewN (Below.refl _ _) j
theorem most_neg (x : Int) (w : World) (h0 : -1000000000 ≤ x) (h1 : x ≤ 1000000000) :
    Calls Try.prog 84 #[.int .i64 x, .int .i64 (-x)] w fun e w' => e = .returned (.int .i64 (x.natAbs : Int)) ∧ w = w' := by
  by_cases h : 0 < x
  · have e1 : (x.natAbs : Int) = x := by omega
    rw [e1]
    have g : decide (-x < x) = true := decide_eq_true (by omega)
    clear e1
    go_enter Try.func84, Try.ntmps84
    go_wp2_with fail
    go_ret
    exact ⟨rfl, rfl⟩
  · have e1 : (x.natAbs : Int) = -x := by omega
    rw [e1]
    have g : decide (-x < x) = false := decide_eq_false (by omega)
    clear e1
    go_enter Try.func84, Try.ntmps84
    go_wp2_with fail
    go_ret
    exact ⟨rfl, rfl⟩
theorem reduceI (x : Int) (d : Nat) (w : World) (h0 : -1000000000 ≤ x) (h1 : x ≤ 1000000000) (hd : 1 ≤ d) (hd2 : d ≤ 86400) :
    Calls Try.prog 59 #[.int .i64 x, .int .i64 (d : Int)] w fun e w' => e = .returned (.tuple #[.int .i64 (x.tdiv (Nat.gcd x.natAbs d : Nat)), .int .i64 ((d / Nat.gcd x.natAbs d : Nat) : Int)]) ∧ ∃ j, w' = w.drewN j := by
  have HG := Lib.hid (Nat.gcd_comm d x.natAbs)
  have HD := Lib.hid (Nat.gcd_le_right x.natAbs (show 0 < d from hd))
  have HP := Lib.hid (Nat.gcd_pos_of_pos_right x.natAbs (show 0 < d from hd))
  go_enter Try.func59, Try.ntmps59
  go_wp2_with fail
  all_goals
    go_loopw [6, 7] (fun a r wr => ∃ u v j : Nat, a = .int .i64 u ∧ r = .int .i64 v ∧ Nat.gcd u v = Nat.gcd x.natAbs d ∧ u ≤ 1000000000 ∧ v ≤ 1000000000 ∧ wr = w.drewN j) (fun _ r _ => (intOf r).toNat)
    case atStart => exact ⟨d, x.natAbs, 0, rfl, by congr 1; omega, HG.out, by omega, by omega, rfl⟩
    case round =>
      obtain ⟨u, v, j, rfl, rfl, hg, hu, hv, rfl⟩ := hrel
      have HH := Lib.hid hg
      clear hg
      by_cases h2 : v = 0
      · subst h2
        obtain rfl : u = Nat.gcd x.natAbs d := by rw [← HH.out, Nat.gcd_zero_right]
        have hp := HP.out
        have hl := HD.out
        clear HG HD HP HH
        obtain ⟨g, hgE⟩ : ∃ g, Nat.gcd x.natAbs d = g := ⟨_, rfl⟩
        have HGE := Lib.hid hgE
        rw [hgE] at hp hl hu ⊢
        clear hgE
        have hn : (x.tdiv g).natAbs = x.natAbs / (g : Int).natAbs := Int.natAbs_tdiv x g
        have hle := Nat.div_le_self x.natAbs (g : Int).natAbs
        have e5 : IntKind.i64.wrap (x.tdiv g) = x.tdiv g := IntWalk.i64_in _ (by omega)
        have hle2 := Nat.div_le_self d g
        obtain ⟨q, hq⟩ : ∃ q, d / g = q := ⟨_, rfl⟩
        have HQ := Lib.hid hq
        rw [hq] at hle2
        have E6 := Lib.hid (show wrap64 ((d : Int) / (g : Int)) = (q : Int) by
          rw [← Int.natCast_ediv, hq]
          exact IntWalk.wrap64_in _ ⟨by omega, by omega⟩)
        clear hq
        have e7 : ((g : Int) == 0) = false := by simp; omega
        clear hn hle hle2 hu hv
        go_wp2_with fail
        go_quiet (fail)
        go_wp2_with fail
        go_ret2
        exact ⟨(congrArg (fun y => Ending.returned (.tuple #[.int .i64 (x.tdiv g), .int .i64 y])) E6.out).trans (by rw [HGE.out, HQ.out]), _, World.drewN_drewN ..⟩
      · have e1 := tmod_nat u v
        have e2 : ((v : Int) == 0) = false := by simp; omega
        have HW := Lib.hid (show Nat.gcd v (u % v) = Nat.gcd x.natAbs d by rw [Nat.gcd_comm, ← Nat.gcd_rec, Nat.gcd_comm]; exact HH.out)
        have hz := Nat.mod_lt u (show 0 < v by omega)
        clear HG HH
        generalize u % v = z at *
        have HM := Lib.hid (show (intOf (.int .i64 (z : Int))).toNat < (intOf (.int .i64 (v : Int))).toNat from hz)
        go_wp2_with fail
        go_quiet (fail)
        go_wp2_with fail
        go_roundw
        case rel => exact ⟨v, z, _, rfl, rfl, HW.out, hv, by omega, World.drewN_drewN ..⟩
        case measure => exact HM.out

theorem reduceS (x : Int) (d : Nat) (w : World) (h0 : -1000000000 ≤ x) (h1 : x ≤ 1000000000) (hd : 1 ≤ d) (hd2 : d ≤ 86400) :
    Calls Try.prog 74 #[.int .i64 x, .int .i64 (d : Int)] w fun e w' => e = .returned (.tuple #[.int .i64 (x.tdiv (Nat.gcd x.natAbs d : Nat)), .int .i64 ((d / Nat.gcd x.natAbs d : Nat) : Int)]) ∧ ∃ j, w' = w.drewN j := by
  have HD := Lib.hid (Nat.gcd_le_right x.natAbs (show 0 < d from hd))
  have HP := Lib.hid (Nat.gcd_pos_of_pos_right x.natAbs (show 0 < d from hd))
  have HL := Lib.hid (fun w => most_neg x w h0 h1)
  obtain ⟨n, hn⟩ : ∃ n, x.natAbs = n := ⟨_, rfl⟩
  have HN := Lib.hid hn
  have hn2 : n ≤ 1000000000 := by omega
  rw [hn] at HL
  clear hn
  go_enter Try.func74, Try.ntmps74
  go_wp2_with fail
  refine (HL.out _).mono ?_
  rintro e w1 ⟨rfl, rfl⟩
  go_wp2_with fail
  go_loop [6, 7] (fun a r => ∃ u v : Nat, a = .int .i64 u ∧ r = .int .i64 v ∧ Nat.gcd u v = Nat.gcd x.natAbs d ∧ u ≤ 1000000000 ∧ v ≤ 1000000000) (fun _ r => (intOf r).toNat)
  case atStart => exact ⟨n, d, rfl, rfl, by rw [HN.out], hn2, by omega⟩
  case round =>
    obtain ⟨u, v, rfl, rfl, hg, hu, hv⟩ := hrel
    have HH := Lib.hid hg
    clear hg
    by_cases h2 : v = 0
    · subst h2
      obtain rfl : u = Nat.gcd x.natAbs d := by rw [← HH.out, Nat.gcd_zero_right]
      have hp := HP.out
      have hl := HD.out
      clear HD HP HH
      obtain ⟨g, hgE⟩ : ∃ g, Nat.gcd x.natAbs d = g := ⟨_, rfl⟩
      have HGE := Lib.hid hgE
      rw [hgE] at hp hl hu ⊢
      clear hgE
      have hn : (x.tdiv g).natAbs = x.natAbs / (g : Int).natAbs := Int.natAbs_tdiv x g
      have hle := Nat.div_le_self x.natAbs (g : Int).natAbs
      have e5 : IntKind.i64.wrap (x.tdiv g) = x.tdiv g := IntWalk.i64_in _ (by omega)
      have hle2 := Nat.div_le_self d g
      obtain ⟨q, hq⟩ : ∃ q, d / g = q := ⟨_, rfl⟩
      have HQ := Lib.hid hq
      rw [hq] at hle2
      have E6 := Lib.hid (show wrap64 ((d : Int) / (g : Int)) = (q : Int) by
        rw [← Int.natCast_ediv, hq]
        exact IntWalk.wrap64_in _ ⟨by omega, by omega⟩)
      clear hq
      have e7 : ((g : Int) == 0) = false := by simp; omega
      clear hn hle hle2 hu hv
      go_wp2_with fail
      go_quiet (fail)
      go_wp2_with fail
      go_ret2
      exact ⟨(congrArg (fun y => Ending.returned (.tuple #[.int .i64 (x.tdiv g), .int .i64 y])) E6.out).trans (by rw [HGE.out, HQ.out]), _, rfl⟩
    · have e1 := tmod_nat u v
      have e3 : (u : Int) % (v : Int) = ((u % v : Nat) : Int) := rfl
      have e2 : ((v : Int) == 0) = false := by simp; omega
      have HW := Lib.hid (show Nat.gcd v (u % v) = Nat.gcd x.natAbs d by rw [Nat.gcd_comm, ← Nat.gcd_rec, Nat.gcd_comm]; exact HH.out)
      have hz := Nat.mod_lt u (show 0 < v by omega)
      clear HH HN
      generalize u % v = z at *
      have HM := Lib.hid (show (intOf (.int .i64 (z : Int))).toNat < (intOf (.int .i64 (v : Int))).toNat from hz)
      go_wp2_with fail
      go_round
      case rel => exact ⟨v, z, rfl, rfl, HW.out, hv, by omega⟩
      case measure => exact HM.out

end Go.Proofs.Ytinkkdgjpcnklaa.motr
