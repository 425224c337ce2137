/- spec's pairs of ticks: IsValidPairs, OffsetOf, DriftOf, WorstPair, IsSteadyClock; SharedTime. -/
import Derived.BigQuiet
import Derived.Deep.QuietTactic
import Derived.Test.YtndogafihaooiaaClk
import Derived.Test.YtndogafihaooiaaIns
import Derived.Test.YtndogafihaooiaaAtS
namespace Go.Proofs.Ytndogafihaooiaa.clks
open Go.RowKit Go.Proofs.Ytndogafihaooiaa.ints Go.Proofs.Ytndogafihaooiaa.lst Go.Proofs.Ytndogafihaooiaa.in_ Go.Proofs.Ytndogafihaooiaa.ats Go.Proofs.Ytndogafihaooiaa.clk Go.Proofs.Ytndogafihaooiaa.ins

theorem cellsP {w : World} {B n k : Nat} {A : Option Addr} {zs : List Int} (h : RdZ 2 w B A n zs) (hk : k < n) :
    ∃ b o, A = some ⟨b, o, none⟩ ∧ b < B ∧ w.cell? ⟨b, o + k * 2, none⟩ = some (.int .i64 (fld 2 zs k 0)) ∧ w.cell? ⟨b, o + k * 2 + 1, none⟩ = some (.int .i64 (fld 2 zs k 1)) := by
  obtain ⟨b, o, e, hb, hc⟩ := h.at_ hk
  exact ⟨b, o, e, hb, hc 0 (by omega), hc 1 (by omega)⟩
theorem ticks (x : Int) (w : World) :
    Calls Try.prog 59 #[.int .i64 x] w fun e w' => e = .returned (.bool (tkB x)) ∧ w = w' := by
  have H := Lib.hid (fun w => l1In x 0 1000000 w)
  unfold tkB
  generalize isIn x 0 1000000 = b at *
  go_enter Try.func59, Try.ntmps59
  go_wp2_with fail
  refine (H.out _).mono ?_
  rintro e w1 ⟨rfl, rfl⟩
  go_wp2_with fail
  go_ret
  exact ⟨rfl, rfl⟩

set_option maxRecDepth 100000 in
set_option maxHeartbeats 4000000 in
theorem good12 (zs : List Int) (A : Option Addr) (n c : Nat) (w : World) (hn : n ≤ 1048577) (h1 : RdZ 2 w w.heap.size A n zs) :
    Calls Try.prog 58 #[.slice A n c] w fun e w' => e = .returned (.bool (ckB zs n)) ∧ Below w.heap.size w w' := by
  have HI := Lib.hid (fun w => l1In (n : Int) 1 12 w)
  have HNO := Lib.hid (fun k (hk : k < n) (h : oneB zs k = false) => ckB_no (ckT_no hk h))
  have HR := Lib.hid h1
  have HEND := Lib.hid (fun (h : ckT zs n = true) => show ckB zs n = isIn (n : Int) 1 12 by
    unfold ckB isIn
    rw [h]
    by_cases hb : 1 ≤ n ∧ n ≤ 12
    · rw [decide_eq_true hb, decide_eq_true (show (1 : Int) ≤ (n : Int) ∧ (n : Int) ≤ 12 by omega)]; rfl
    · rw [decide_eq_false hb, decide_eq_false (show ¬ ((1 : Int) ≤ (n : Int) ∧ (n : Int) ≤ 12) by omega)]; rfl)
  clear h1
  go_enter Try.func58, Try.ntmps58
  go_wp2_with fail
  go_loopw [3] (fun i wr => ∃ k : Nat, k ≤ n ∧ i = .int .i64 k ∧ Below w.heap.size w wr ∧ ckT zs k = true) (fun i _ => n - (intOf i).toNat)
  case atStart => exact ⟨0, Nat.zero_le _, rfl, Below.refl _ _, rfl⟩
  case round =>
    obtain ⟨k, hk, rfl, hb, hck⟩ := hrel
    have HB := Lib.hid hb
    have HCK := Lib.hid hck
    by_cases hlt : k < n
    · have hlt2 : (k : Int) < (n : Int) := by omega
      obtain ⟨b1, o1, rfl, l1, p0, p1⟩ := cellsP (HR.out.below hb (Nat.le_refl _)) hlt
      have t1 := fun w => ticks (fld 2 zs k 0) w
      have t2 := fun w => ticks (fld 2 zs k 1) w
      have HNk := Lib.hid (HNO.out k hlt)
      have HO := Lib.hid (show oneB zs k = (tkB (fld 2 zs k 0) && (tkB (fld 2 zs k 1) && (decide (k = 0) || decide (fld 2 zs (k - 1) 0 < fld 2 zs k 0)))) from rfl)
      have HS := Lib.hid (show ckT zs (k + 1) = (ckT zs k && oneB zs k) from rfl)
      clear hb hck HNO HEND
      cases ha : tkB (fld 2 zs k 0)
      · have HN := Lib.hid (HNk.out (by rw [HO.out, ha]; rfl))
        rw [ha] at t1
        have S1 := Lib.hid (fun w d => aid.quiet_left (t1 (World.drewN w d)))
        clear t1 t2 ha HO HS
        go_wp2_with fail
        go_quiet (first
          | (go_at_call 59; first | (with_reducible exact S1.out _ _)))
        go_wp2_with fail
        go_ret
        exact ⟨by rw [HN.out]; rfl, aid.below_drewN HB.out _⟩
      cases hb2 : tkB (fld 2 zs k 1)
      · have HN := Lib.hid (HNk.out (by rw [HO.out, ha, hb2]; rfl))
        rw [ha] at t1
        rw [hb2] at t2
        have S1 := Lib.hid (fun w d => aid.quiet_left (t1 (World.drewN w d)))
        have S2 := Lib.hid (fun w d => aid.quiet_left (t2 (World.drewN w d)))
        have hne : fld 2 zs k 0 ≠ fld 2 zs k 1 := fun h => by rw [h, hb2] at ha; cases ha
        clear t1 t2 ha hb2 HO HS
        generalize fld 2 zs k 0 = u at *
        generalize fld 2 zs k 1 = v at *
        go_wp2_with fail
        go_quiet (first
          | (go_at_call 59; first | (with_reducible exact S1.out _ _) | (with_reducible exact S2.out _ _)))
        go_wp2_with fail
        go_ret
        exact ⟨by rw [HN.out]; rfl, aid.below_drewN HB.out _⟩
      rw [ha] at t1
      rw [hb2] at t2
      have S1 := Lib.hid (fun w d => aid.quiet_left (t1 (World.drewN w d)))
      have S2 := Lib.hid (fun w d => aid.quiet_left (t2 (World.drewN w d)))
      clear t1 t2
      rcases Nat.eq_zero_or_pos k with h0 | h0
      · have HT := Lib.hid (show ckT zs (k + 1) = true by rw [HS.out, HCK.out, HO.out, ha, hb2, decide_eq_true h0]; rfl)
        subst h0
        clear ha hb2 HO HS HNk HCK
        generalize fld 2 zs 0 0 = u at *
        generalize fld 2 zs 0 1 = v at *
        rw [Nat.zero_mul, Nat.add_zero] at p0 p1
        go_wp2_with fail
        go_quiet (first
          | (go_at_call 59; first | (with_reducible exact S1.out _ _) | (with_reducible exact S2.out _ _)))
        go_wp2_with fail
        go_roundw
        case rel => exact ⟨0 + 1, by omega, by go_num, aid.below_drewN HB.out _, HT.out⟩
        case measure => simp [intOf]; omega
      obtain ⟨p, hp⟩ : ∃ p, p + 1 = k := ⟨k - 1, by omega⟩
      rw [show k - 1 = p by omega] at HO
      have hpn : p < n := by omega
      have hpn2 : (p : Int) < (n : Int) := by omega
      have hp0 : (0 : Int) ≤ (p : Int) := Int.natCast_nonneg _
      have e1 : IntKind.i64.wrap ((k : Int) - 1) = (p : Int) := by rw [IntWalk.i64_in _ (by omega)]; omega
      have hk0 : decide (0 < k) = true := decide_eq_true h0
      obtain ⟨b2, o2, eA, l2, q0, q1⟩ := cellsP (HR.out.below HB.out (Nat.le_refl _)) hpn
      obtain ⟨rfl, rfl⟩ : b1 = b2 ∧ o1 = o2 := by injection eA with e; injection e with e1 e2; exact ⟨e1, e2⟩
      clear eA q1 hp
      by_cases hs : fld 2 zs p 0 < fld 2 zs k 0
      · have HT := Lib.hid (show ckT zs (k + 1) = true by rw [HS.out, HCK.out, HO.out, ha, hb2, decide_eq_true hs]; simp)
        have hs2 : ¬ fld 2 zs k 0 ≤ fld 2 zs p 0 := by omega
        clear ha hb2 HO HS HNk HCK
        generalize fld 2 zs k 0 = u at *
        generalize fld 2 zs k 1 = v at *
        generalize fld 2 zs p 0 = z at *
        go_wp2_with fail
        go_quiet (first
          | (go_at_call 59; first | (with_reducible exact S1.out _ _) | (with_reducible exact S2.out _ _)))
        go_wp2_with fail
        go_roundw
        case rel => exact ⟨k + 1, by omega, by go_num, aid.below_drewN HB.out _, HT.out⟩
        case measure => simp [intOf]; omega
      · have HN := Lib.hid (HNk.out (by rw [HO.out, ha, hb2, decide_eq_false hs, decide_eq_false (show ¬ k = 0 by omega)]; rfl))
        have hs2 : fld 2 zs k 0 ≤ fld 2 zs p 0 := by omega
        clear ha hb2 HO HS HNk HCK hs
        generalize fld 2 zs k 0 = u at *
        generalize fld 2 zs k 1 = v at *
        generalize fld 2 zs p 0 = z at *
        go_wp2_with fail
        go_quiet (first
          | (go_at_call 59; first | (with_reducible exact S1.out _ _) | (with_reducible exact S2.out _ _)))
        go_wp2_with fail
        go_ret
        exact ⟨by rw [HN.out]; rfl, aid.below_drewN HB.out _⟩
    · obtain rfl : k = n := by omega
      have HE := Lib.hid (HEND.out HCK.out)
      clear hb hck HNO HEND
      go_wp2_with fail
      refine (HI.out _).mono ?_
      rintro e w2 ⟨rfl, rfl⟩
      go_wp2_with fail
      go_ret
      exact ⟨by rw [HE.out]; rfl, HB.out⟩

theorem isValidPairs (zs : List Int) (A : Option Addr) (n c : Nat) (w : World) (hn : n ≤ 1048577) (h1 : RdZ 2 w w.heap.size A n zs) :
    Calls Try.prog 41 #[.slice A n c] w fun e w' => e = .returned (.bool (ckB zs n)) ∧ Below w.heap.size w w' := by
  have H := Lib.hid (good12 zs A n c w hn h1)
  clear h1
  go_enter Try.func41, Try.ntmps41
  go_wp2_with fail
  refine H.out.mono ?_
  rintro e w2 ⟨rfl, hb⟩
  go_wp2_with fail
  go_ret
  exact ⟨rfl, hb⟩

end Go.Proofs.Ytndogafihaooiaa.clks
