/- spec's l7Moved. -/
import Derived.Test.YtelkflgmjfmadaaIn
import Derived.Test.YtelkflgmjfmadaaPos
import Derived.Test.YtelkflgmjfmadaaLst
namespace Go.Proofs.Ytelkflgmjfmadaa.posw
open Go.RowKit Go.Proofs.Ytelkflgmjfmadaa.pos Go.Proofs.Ytelkflgmjfmadaa.in_ Go.Proofs.Ytelkflgmjfmadaa.ints Go.Proofs.Ytelkflgmjfmadaa.lst

set_option maxRecDepth 100000 in
set_option maxHeartbeats 2000000 in
theorem moved7 (r0 s0 r s d : Int) (hs0 : s0 = 99 ∨ s0 = 100) (hr0 : 0 ≤ r0 ∧ r0 < s0) (hs : s = 99 ∨ s = 100) (hr : 0 ≤ r ∧ r < s) (hd : 0 ≤ d ∧ d ≤ 3) (w : World) :
    Calls Try.prog 63 #[.int .i64 r0, .int .i64 s0, .int .i64 r, .int .i64 s, .int .i64 d] w
      fun e w' => ∃ v, e = .returned v ∧ w'.ownsRow w.heap.size 3 1 v (mv r0 s0 r s d).length (cellsI (mv r0 s0 r s d)) ∧ Below w.heap.size w w' := by
  have HC := Lib.hid (fun k : Nat => cnt_lt (hi := 9899) (k := k) hs hr)
  have HK := Lib.hid (cnt_le (hi := 9899) hs hr (Int.le_refl _))
  have HY := Lib.hid (fun (k : Nat) (h : ld (r + (k : Int) * s) r0 s0 ≤ d) => mvT_yes h)
  have HN := Lib.hid (fun (k : Nat) (h : ¬ ld (r + (k : Int) * s) r0 s0 ≤ d) => mvT_no h)
  have HL := Lib.hid (fun k => mvT_length r0 s0 r s d k)
  have HA := Lib.hid (fun (n : Int) (i : Nat) (hn : 0 ≤ n ∧ n ≤ 9899) (hi : (i : Int) = 2 * d + 1) => nrT_all hs0 hr0 hn hi)
  have HS := Lib.hid (show ∀ (k : Nat) (n : Int), n = r + k * s → n + s = r + ((k + 1 : Nat) : Int) * s from fun k n hn => by rw [hn, Int.natCast_add, Int.add_mul]; omega)
  have HI := Lib.hid (fun x w => l1In x 0 9899 w)
  have HV := Lib.hid (show mvT r0 s0 r s d (cnt r s 9899) = mv r0 s0 r s d from rfl)
  have s1 : 99 ≤ s := by omega
  have s2 : s ≤ 100 := by omega
  have s3 : 99 ≤ s0 := by omega
  have s4 : s0 ≤ 100 := by omega
  have r1 : r ≤ 99 := by omega
  obtain ⟨rr, -⟩ := hr
  obtain ⟨d0, d1⟩ := hd
  obtain ⟨i0, hi0, hz0, hz1, hz2⟩ := info_parts infoI
  generalize cnt r s 9899 = K at *
  clear hs0 hr0 hs
  have O0 := Lib.hid (own_.own_empty w 3)
  have E0 := Lib.hid ((Below.refl w.heap.size w).alloc (Nat.le_refl _) (.cells #[] 3))
  go_enter Try.func63, Try.ntmps63
  go_wp2_with fail
  go_loopw [11, 12] (fun v i wr => ∃ k : Nat, k ≤ K ∧ ∃ n : Int, n = r + k * s ∧ 0 ≤ n ∧ n ≤ 9999 ∧ i = .int .i64 n ∧ wr.ownsRow w.heap.size 3 1 v (mvT r0 s0 r s d k).length (cellsI (mvT r0 s0 r s d k)) ∧ Below w.heap.size w wr) (fun _ i _ => 10000 - (intOf i).toNat)
  case atStart => exact ⟨0, Nat.zero_le _, r, by simp, rr, by omega, rfl, O0.out, E0.out⟩
  case round =>
    obtain ⟨k, hk, n, hn, n0, n1, rfl, hown, hb⟩ := hrel
    have hsz := hb.size
    have hkk := HC.out k
    rw [← hn] at hkk
    by_cases hlt : n ≤ 9899
    · have hkK := hkk.mp hlt
      have HQ := Lib.hid (HS.out k n hn)
      have HYk := Lib.hid (HY.out k)
      have HNk := Lib.hid (HN.out k)
      rw [← hn] at HYk HNk
      have hlen := HL.out k
      generalize mvT r0 s0 r s d k = L at *
      have HO := Lib.hid hown
      have HB := Lib.hid hb
      clear hn hkk hown hb
      go_wp2_with fail
      go_loop [13, 14] (fun p i => ∃ i' : Nat, (i' : Int) ≤ 2 * d + 1 ∧ p = .bool (nrT r0 s0 n d i') ∧ i = .int .i64 (-d + i')) (fun _ i => (d + 1 - intOf i).toNat)
      case atStart => exact ⟨0, by omega, rfl, by simp⟩
      case round =>
        obtain ⟨i, hi, rfl, rfl⟩ := hrel
        have u0 : -3 ≤ -d + (i : Int) := by omega
        have u1 : -d + (i : Int) ≤ 4 := by omega
        by_cases hle : -d + (i : Int) ≤ d
        · have HT := Lib.hid (show nrT r0 s0 n d (i + 1) = (nrT r0 s0 n d i || (isIn (n + (-d + i)) 0 9899 && decide ((n + (-d + i)) % s0 = r0))) from rfl)
          have HU := Lib.hid (show -d + (i : Int) + 1 = -d + ((i + 1 : Nat) : Int) by omega)
          have F := Lib.hid (fun w => HI.out (n + (-d + (i : Int))) w)
          have hib : isIn (n + (-d + (i : Int))) 0 9899 = true → 0 ≤ n + (-d + (i : Int)) := fun h => (of_decide_eq_true h).1
          generalize nrT r0 s0 n d i = p at *
          generalize hu : -d + (i : Int) = u at *
          generalize isIn (n + u) 0 9899 = q at *
          cases p
          · cases q
            · go_wp2_with fail
              refine (F.out _).mono ?_
              rintro e w1 ⟨rfl, rfl⟩
              go_wp2_with fail
              go_round
              case rel => exact ⟨i + 1, by omega, by rw [HT.out]; rfl, by rw [← HU.out]⟩
              case measure => simp [intOf]; omega
            · have hnn := hib rfl
              have t1 : (n + u).tmod s0 = (n + u) % s0 := Int.tmod_eq_emod_of_nonneg hnn
              have hqq : ((n + u) % s0 == r0) = decide ((n + u) % s0 = r0) := rfl
              have m1 : 0 ≤ (n + u) % s0 ∧ (n + u) % s0 < s0 := ⟨Int.emod_nonneg _ (by omega), Int.emod_lt_of_pos _ (by omega)⟩
              obtain ⟨m2, m3⟩ := m1
              generalize hz : decide ((n + u) % s0 = r0) = z at *
              clear hz
              go_wp2_with fail
              refine (F.out _).mono ?_
              rintro e w1 ⟨rfl, rfl⟩
              go_wp2_with fail
              go_round
              case rel => exact ⟨i + 1, by omega, by rw [HT.out]; simp, by rw [← HU.out]⟩
              case measure => simp [intOf]; omega
          · go_wp2_with fail
            go_round
            case rel => exact ⟨i + 1, by omega, by rw [HT.out]; rfl, by rw [← HU.out]⟩
            case measure => simp [intOf]; omega
        · have hi2 : (i : Int) = 2 * d + 1 := by omega
          have hall := HA.out n i ⟨n0, hlt⟩ hi2
          have hle2 : decide (-d + (i : Int) ≤ d) = false := decide_eq_false hle
          rw [hall]
          clear hall hle
          generalize -d + (i : Int) = u at *
          have hown := HO.out
          have hb := HB.out
          by_cases hd : ld n r0 s0 ≤ d
          · have HX := Lib.hid (HYk.out hd)
            rw [decide_eq_true hd]
            have hKK := HK.out
            clear hd
            go_wp2_with (at_builtin; refine wpList_append_own _ rfl (.tmp 46) (.tmp 48) 87 rfl w.heap.size 3 i0 (.int .i64 0) 1 8 Try.underlying87 hi0 hz0 hz1 hz2 rfl (by decide) _ L.length (cellsI L) rfl (hown.alloc _) ⟨wr.heap.size, 0, none⟩ 1 1 [.int .i64 n] rfl rfl (cell_one_new _ _ _) (own_.one_cell _ rfl) (by unfold maxLen; omega) (by have := HK.out; omega) (by simp; omega) ?_; intro v' w3 hown' hgrow hnil)
            have hb' := own_.below_append hb hown hsz hgrow
            have HO2 := Lib.hid (own_growI hown')
            clear hown' hgrow hnil hown hb
            go_roundw
            case rel => exact ⟨k + 1, by omega, n + s, HQ.out, by omega, by omega, rfl, by rw [HX.out]; exact HO2.out, hb'⟩
            case measure => simp [intOf]; omega
          · have HX := Lib.hid (HNk.out (by omega))
            rw [decide_eq_false hd]
            clear hd
            go_wp2_with fail
            go_roundw
            case rel => exact ⟨k + 1, by omega, n + s, HQ.out, by omega, by omega, rfl, by rw [HX.out]; exact hown, hb⟩
            case measure => simp [intOf]; omega
    · obtain rfl : k = K := by
        have : ¬ k < K := fun h => hlt (hkk.mpr h)
        omega
      rw [HV.out] at hown
      clear hn hkk
      go_wp2_with fail
      go_ret
      exact ⟨_, rfl, hown, hb⟩
end Go.Proofs.Ytelkflgmjfmadaa.posw
