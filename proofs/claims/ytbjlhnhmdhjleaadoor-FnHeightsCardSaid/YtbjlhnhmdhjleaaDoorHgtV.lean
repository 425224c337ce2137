/- spec's heights, on: ChangedBits, l6Reduce, ClimbRate. -/
import Derived.Test.YtbjlhnhmdhjleaaDoorHgtU
namespace Go.Proofs.YtbjlhnhmdhjleaaDoor.hgtv
open Go.RowKit Go.Proofs.YtbjlhnhmdhjleaaDoor.hgt Go.Proofs.YtbjlhnhmdhjleaaDoor.bin Go.Proofs.YtbjlhnhmdhjleaaDoor.in_ Go.Proofs.YtbjlhnhmdhjleaaDoor.hgti Go.Proofs.YtbjlhnhmdhjleaaDoor.hgtj Go.Proofs.YtbjlhnhmdhjleaaDoor.hgtk Go.Proofs.YtbjlhnhmdhjleaaDoor.hgtc Go.Proofs.YtbjlhnhmdhjleaaDoor.hgtg

theorem and_one (x : Nat) (hx : x < 4096) : bits .and .i64 (x : Int) 1 = ((x % 2 : Nat) : Int) := by
  have a := pop_.and_nat_i x 1 (by omega) (by omega)
  rw [show (1 : Int) = ((1 : Nat) : Int) from rfl, a, Nat.and_one_is_mod]
theorem pc_zero : ∀ k, pc k 0 = 0
  | 0 => rfl
  | k + 1 => by rw [pc, Nat.zero_div, pc_zero k]
theorem reduce (x : Int) (d : Nat) (w : World) (h0 : -8000000 ≤ x) (h1 : x ≤ 8000000) (hd : 1 ≤ d) (hd2 : d ≤ 86400) :
    Calls Tryd.prog 36 #[.int .i64 x, .int .i64 (d : Int)] w fun e w' => e = .returned (.tuple #[.int .i64 (x.tdiv (Nat.gcd x.natAbs d : Nat)), .int .i64 ((d / Nat.gcd x.natAbs d : Nat) : Int)]) ∧ ∃ j, w' = w.drewN j := by
  have HD := Lib.hid (Nat.gcd_le_right x.natAbs (show 0 < d from hd))
  have HP := Lib.hid (Nat.gcd_pos_of_pos_right x.natAbs (show 0 < d from hd))
  have HL := Lib.hid (fun w => hgtu.most_neg x w h0 h1)
  obtain ⟨n, hn⟩ : ∃ n, x.natAbs = n := ⟨_, rfl⟩
  have HN := Lib.hid hn
  have hn2 : n ≤ 8000000 := by omega
  rw [hn] at HL
  clear hn
  go_enter Tryd.func36, Tryd.ntmps36
  go_wp2_with fail
  refine (HL.out _).mono ?_
  rintro e w1 ⟨rfl, rfl⟩
  go_wp2_with fail
  go_loop [6, 7] (fun a r => ∃ u v : Nat, a = .int .i64 u ∧ r = .int .i64 v ∧ Nat.gcd u v = Nat.gcd x.natAbs d ∧ u ≤ 8000000 ∧ v ≤ 8000000) (fun _ r => (intOf r).toNat)
  case atStart => exact ⟨n, d, rfl, rfl, by rw [HN.out], hn2, by omega⟩
  case round =>
    obtain ⟨u, v, rfl, rfl, hg, hu, hv⟩ := hrel
    have HH := Lib.hid hg
    clear hg
    by_cases h2 : v = 0
    · subst h2
      obtain rfl : u = Nat.gcd x.natAbs d := by rw [← HH.out, Nat.gcd_zero_right]
      have hp := HP.out
      have hl := HD.out
      clear HD HP HH
      obtain ⟨g, hgE⟩ : ∃ g, Nat.gcd x.natAbs d = g := ⟨_, rfl⟩
      have HGE := Lib.hid hgE
      rw [hgE] at hp hl hu ⊢
      clear hgE
      have hn : (x.tdiv g).natAbs = x.natAbs / (g : Int).natAbs := Int.natAbs_tdiv x g
      have hle := Nat.div_le_self x.natAbs (g : Int).natAbs
      have e5 : IntKind.i64.wrap (x.tdiv g) = x.tdiv g := IntWalk.i64_in _ (by omega)
      have hle2 := Nat.div_le_self d g
      obtain ⟨q, hq⟩ : ∃ q, d / g = q := ⟨_, rfl⟩
      have HQ := Lib.hid hq
      rw [hq] at hle2
      have E6 := Lib.hid (show wrap64 ((d : Int) / (g : Int)) = (q : Int) by
        rw [← Int.natCast_ediv, hq]
        exact IntWalk.wrap64_in _ ⟨by omega, by omega⟩)
      clear hq
      have e7 : ((g : Int) == 0) = false := by simp; omega
      clear hn hle hle2 hu hv
      go_wp2_with fail
      go_quiet (fail)
      go_wp2_with fail
      go_ret2
      exact ⟨(congrArg (fun y => Ending.returned (.tuple #[.int .i64 (x.tdiv g), .int .i64 y])) E6.out).trans (by rw [HGE.out, HQ.out]), _, rfl⟩
    · have e1 := tmod_nat u v
      have e3 : (u : Int) % (v : Int) = ((u % v : Nat) : Int) := rfl
      have e2 : ((v : Int) == 0) = false := by simp; omega
      have HW := Lib.hid (show Nat.gcd v (u % v) = Nat.gcd x.natAbs d by rw [Nat.gcd_comm, ← Nat.gcd_rec, Nat.gcd_comm]; exact HH.out)
      have hz := Nat.mod_lt u (show 0 < v by omega)
      clear HH HN
      generalize u % v = z at *
      have HM := Lib.hid (show (intOf (.int .i64 (z : Int))).toNat < (intOf (.int .i64 (v : Int))).toNat from hz)
      go_wp2_with fail
      go_round
      case rel => exact ⟨v, z, rfl, rfl, HW.out, hv, by omega⟩
      case measure => exact HM.out

theorem climb (a f b t : Int) (w : World) :
    Calls Tryd.prog 20 #[.int .i64 a, .int .i64 f, .int .i64 b, .int .i64 t] w fun e w' => e = .returned (.tuple #[.int .i64 (crN a f b t), .int .i64 (crD a f b t : Int), .bool (crB a f b t)]) ∧ Below w.heap.size w w' := by
  have HA := Lib.hid (fun w => hgts.isHeight a w)
  have HB := Lib.hid (fun w => hgts.isHeight b w)
  cases ha : hB a
  · have HE := Lib.hid (cr_no (f := f) (t := t) (cr_hs (b := b) (.inl ha)))
    rw [ha] at HA
    clear ha
    go_enter Tryd.func20, Tryd.ntmps20
    go_wp2_with fail
    refine (HA.out _).mono ?_
    rintro e w1 ⟨rfl, rfl⟩
    go_wp2_with fail
    go_ret3
    exact ⟨HE.out, Below.refl _ _⟩
  · rw [ha] at HA
    cases hb : hB b
    · have HE := Lib.hid (cr_no (f := f) (t := t) (cr_hs (a := a) (.inr hb)))
      rw [hb] at HB
      clear ha hb
      go_enter Tryd.func20, Tryd.ntmps20
      go_wp2_with fail
      refine (HA.out _).mono ?_
      rintro e w1 ⟨rfl, rfl⟩
      go_wp2_with fail
      refine (HB.out _).mono ?_
      rintro e w1 ⟨rfl, rfl⟩
      go_wp2_with fail
      go_ret3
      exact ⟨HE.out, Below.refl _ _⟩
    · rw [hb] at HB
      by_cases ht : 0 ≤ f ∧ f < t ∧ t ≤ 86400
      · have hc : crB a f b t = true := by unfold crB; rw [ha, hb, decide_eq_true ht]; rfl
        have HE0 := cr_yes hc
        unfold crG at HE0
        have HE := Lib.hid HE0
        clear HE0
        unfold hB at ha hb
        rw [decide_eq_true_eq] at ha hb
        obtain ⟨t0, t1, t2⟩ := ht
        have HR := Lib.hid (fun w => reduce ((b - a) * 60) (t - f).toNat w (by omega) (by omega) (by omega) (by omega))
        have e1 : (((t - f).toNat : Nat) : Int) = t - f := by omega
        rw [e1, show (b - a) * 60 = 60 * (b - a) by omega] at HR
        rw [show (b - a) * 60 = 60 * (b - a) by omega] at HE
        generalize (60 * (b - a)).tdiv ((Nat.gcd (60 * (b - a)).natAbs (t - f).toNat : Nat) : Int) = N at HR HE
        generalize (((t - f).toNat / Nat.gcd (60 * (b - a)).natAbs (t - f).toNat : Nat) : Int) = M at HR HE
        obtain ⟨a0, a1⟩ := ha
        obtain ⟨b0, b1⟩ := hb
        have g1 : decide (t ≤ f) = false := decide_eq_false (by omega)
        clear hc e1
        go_enter Tryd.func20, Tryd.ntmps20
        go_wp2_with fail
        refine (HA.out _).mono ?_
        rintro e w1 ⟨rfl, rfl⟩
        go_wp2_with fail
        refine (HB.out _).mono ?_
        rintro e w1 ⟨rfl, rfl⟩
        go_wp2_with fail
        refine (HR.out _).mono ?_
        rintro e w2 ⟨rfl, hj⟩
        have HJ := Lib.hid (below_drew hj)
        clear hj
        go_wp2_with fail
        go_ret3
        exact ⟨HE.out, HJ.out⟩
      · have HE := Lib.hid (cr_no (a := a) (b := b) (cr_ts ht))
        clear ha hb
        by_cases t0 : f < 0
        · clear ht
          go_enter Tryd.func20, Tryd.ntmps20
          go_wp2_with fail
          refine (HA.out _).mono ?_
          rintro e w1 ⟨rfl, rfl⟩
          go_wp2_with fail
          refine (HB.out _).mono ?_
          rintro e w1 ⟨rfl, rfl⟩
          go_wp2_with fail
          go_ret3
          exact ⟨HE.out, Below.refl _ _⟩
        · by_cases t1 : t ≤ f
          · clear ht
            go_enter Tryd.func20, Tryd.ntmps20
            go_wp2_with fail
            refine (HA.out _).mono ?_
            rintro e w1 ⟨rfl, rfl⟩
            go_wp2_with fail
            refine (HB.out _).mono ?_
            rintro e w1 ⟨rfl, rfl⟩
            go_wp2_with fail
            go_ret3
            exact ⟨HE.out, Below.refl _ _⟩
          · have t2 : 86400 < t := by omega
            clear ht
            go_enter Tryd.func20, Tryd.ntmps20
            go_wp2_with fail
            refine (HA.out _).mono ?_
            rintro e w1 ⟨rfl, rfl⟩
            go_wp2_with fail
            refine (HB.out _).mono ?_
            rintro e w1 ⟨rfl, rfl⟩
            go_wp2_with fail
            go_ret3
            exact ⟨HE.out, Below.refl _ _⟩
end Go.Proofs.YtbjlhnhmdhjleaaDoor.hgtv
