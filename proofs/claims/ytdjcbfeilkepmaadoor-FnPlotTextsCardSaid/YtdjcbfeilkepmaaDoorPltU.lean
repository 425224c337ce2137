/- impl's IsValidPlot. -/
import Derived.Test.YtdjcbfeilkepmaaDoorPltI
namespace Go.Proofs.YtdjcbfeilkepmaaDoor.pltu
open Go.RowKit Go.Proofs.YtdjcbfeilkepmaaDoor.ints Go.Proofs.YtdjcbfeilkepmaaDoor.lst Go.Proofs.YtdjcbfeilkepmaaDoor.in_ Go.Proofs.YtdjcbfeilkepmaaDoor.ats Go.Proofs.YtdjcbfeilkepmaaDoor.pos Go.Proofs.YtdjcbfeilkepmaaDoor.plt Go.Proofs.YtdjcbfeilkepmaaDoor.pltm Go.Proofs.YtdjcbfeilkepmaaDoor.plti

theorem plB_is (s a x y : Int) (xs : List Int) (n : Nat) (h0 : 0 < n) : plB s a x y xs n = (isIn s 0 86400 && (isIn a 1 65535 && (pB x y && riT xs n))) := by
  unfold plB
  cases h : riT xs n
  · rw [Bool.and_false]
  · rw [isIn_of (show 1 ≤ (n : Int) by omega) (by have := riT_le h; omega)]; rfl
theorem plB_none (s a x y : Int) (xs : List Int) : plB s a x y xs 0 = false := by
  unfold plB
  rw [show isIn ((0 : Nat) : Int) 1 9 = false from decide_eq_false (fun h => by omega), Bool.false_and, Bool.and_false, Bool.and_false, Bool.and_false]
set_option maxRecDepth 100000 in
set_option maxHeartbeats 2000000 in
theorem isValidPlot (s a x y : Int) (xs : List Int) (A : Option Addr) (n c : Nat) (w : World) (hn : n ≤ 1048577) (h1 : RdI w w.heap.size A n xs) :
    Calls Tryd.prog 10 #[.agg #[.int .i64 s, .int .i64 a, .int .i64 x, .int .i64 y, .slice A n c]] w fun e w' => e = .returned (.bool (plB s a x y xs n)) ∧ Below w.heap.size w w' := by
  have E0 := Lib.hid (newS 28 #[.int .i64 s, .int .i64 a, .int .i64 x, .int .i64 y, .slice A n c] w)
  have G1 := Lib.hid (fun w => isSecond s w)
  have G2 := Lib.hid (fun w => isAddress a w)
  have G3 := Lib.hid (fun w => posj.isValidPlace x y w)
  have HR := Lib.hid (fun (W : World) (hb : Below w.heap.size w W) => h1.next hb)
  have HP := Lib.hid (fun (h : 0 < n) => plB_is s a x y xs n h)
  have HZ := Lib.hid (fun (h : n = 0) => show plB s a x y xs n = false by rw [h]; exact plB_none ..)
  have HF := Lib.hid (show (isIn s 0 86400 && (isIn a 1 65535 && pB x y)) = false → plB s a x y xs n = false from fun h => by
    unfold plB
    revert h
    cases isIn s 0 86400 <;> cases isIn a 1 65535 <;> cases pB x y <;> simp)
  have HNO := Lib.hid (fun k (hk : k < n) (h : riT xs (k + 1) = false) => riT_cut (n := n) h hk)
  clear h1
  generalize isIn s 0 86400 = p1 at *
  generalize isIn a 1 65535 = p2 at *
  generalize pB x y = p3 at *
  cases p1
  · have HE := Lib.hid (HF.out rfl)
    go_enter Tryd.func10, Tryd.ntmps10
    go_wp2_with fail
    refine (G1.out _).mono ?_
    rintro e w1 ⟨rfl, rfl⟩
    go_wp2_with fail
    go_ret
    exact ⟨by rw [HE.out]; rfl, E0.out.1⟩
  cases p2
  · have HE := Lib.hid (HF.out rfl)
    go_enter Tryd.func10, Tryd.ntmps10
    go_wp2_with fail
    refine (G1.out _).mono ?_
    rintro e w1 ⟨rfl, rfl⟩
    go_wp2_with fail
    refine (G2.out _).mono ?_
    rintro e w2 ⟨rfl, rfl⟩
    go_wp2_with fail
    go_ret
    exact ⟨by rw [HE.out]; rfl, E0.out.1⟩
  cases p3
  · have HE := Lib.hid (HF.out rfl)
    go_enter Tryd.func10, Tryd.ntmps10
    go_wp2_with fail
    refine (G1.out _).mono ?_
    rintro e w1 ⟨rfl, rfl⟩
    go_wp2_with fail
    refine (G2.out _).mono ?_
    rintro e w2 ⟨rfl, rfl⟩
    go_wp2_with fail
    refine (G3.out _).mono ?_
    rintro e w3 ⟨rfl, hb⟩
    have E3 := Lib.hid (E0.out.old hb)
    clear hb
    have c4 : w3.cell? ⟨w.heap.size, 4, none⟩ = some (.slice A n c) := E3.out.cell 4
    go_wp2_with fail
    go_ret
    exact ⟨by rw [HE.out]; rfl, E3.out.1⟩
  by_cases h0 : n = 0
  · have HE := Lib.hid (HZ.out h0)
    have g0 : ((n : Int) == 0) = true := by rw [h0]; rfl
    clear h0
    go_enter Tryd.func10, Tryd.ntmps10
    go_wp2_with fail
    refine (G1.out _).mono ?_
    rintro e w1 ⟨rfl, rfl⟩
    go_wp2_with fail
    refine (G2.out _).mono ?_
    rintro e w2 ⟨rfl, rfl⟩
    go_wp2_with fail
    refine (G3.out _).mono ?_
    rintro e w3 ⟨rfl, hb⟩
    have E3 := Lib.hid (E0.out.old hb)
    clear hb
    have c4 : w3.cell? ⟨w.heap.size, 4, none⟩ = some (.slice A n c) := E3.out.cell 4
    go_wp2_with fail
    go_ret
    exact ⟨by rw [HE.out]; rfl, E3.out.1⟩
  have HPE := Lib.hid (show plB s a x y xs n = riT xs n from HP.out (by omega))
  have g0 : ((n : Int) == 0) = false := beq_eq_false_iff_ne.mpr (by omega)
  clear HP HZ HF
  go_enter Tryd.func10, Tryd.ntmps10
  go_wp2_with fail
  refine (G1.out _).mono ?_
  rintro e w1 ⟨rfl, rfl⟩
  go_wp2_with fail
  refine (G2.out _).mono ?_
  rintro e w2 ⟨rfl, rfl⟩
  go_wp2_with fail
  refine (G3.out _).mono ?_
  rintro e w3 ⟨rfl, hb⟩
  have E3 := Lib.hid (E0.out.old hb)
  clear hb
  have c4 : w3.cell? ⟨w.heap.size, 4, none⟩ = some (.slice A n c) := E3.out.cell 4
  go_wp2_with fail
  go_loopw [3, 31] (fun l i wr => ∃ (k : Nat) (z : Int), k ≤ n ∧ i = .int .i64 k ∧ l = .int .i64 z ∧ Below w3.heap.size w3 wr ∧ riT xs k = true ∧ (k = 0 → z = 0) ∧ (0 < k → z = xs.getD (k - 1) 0)) (fun _ i _ => n - (intOf i).toNat)
  case atStart => exact ⟨0, 0, Nat.zero_le _, rfl, rfl, Below.refl _ _, rfl, fun _ => rfl, fun h => absurd h (Nat.lt_irrefl _)⟩
  case round =>
    obtain ⟨k, z, hk, rfl, rfl, hb, hck, hz0, hzk⟩ := hrel
    have HB := Lib.hid (E3.out.1.trans (hb.mono E3.out.1.size))
    have HBr := Lib.hid hb
    clear c4
    by_cases hlt : k < n
    · have hlt2 : (k : Int) < (n : Int) := by omega
      obtain ⟨b1, o1, v, rfl, l1, hx, p0⟩ := (HR.out wr HB.out).at_ hlt
      have hxd : xs.getD k 0 = v := by rw [List.getD_eq_getElem?_getD, hx]; rfl
      have HO := Lib.hid (show riT xs (k + 1) = (isIn v 1 9 && (decide (k = 0) || decide (xs.getD (k - 1) 0 < v))) by
        rw [show riT xs (k + 1) = (riT xs k && (isIn (xs.getD k 0) 1 9 && (decide (k = 0) || decide (xs.getD (k - 1) 0 < xs.getD k 0)))) from rfl, hck, Bool.true_and, hxd])
      have HNk := Lib.hid (HNO.out k hlt)
      have HXD := Lib.hid hxd
      have HZ0 := Lib.hid hz0
      have HZK := Lib.hid hzk
      have T1 := Lib.hid (fun w => isSiteNumber v w)
      clear hb hck hx hxd hz0 hzk
      by_cases hl : v ≤ z
      · have HN := Lib.hid (show riT xs n = false from HNk.out (by
          rw [HO.out]
          rcases Nat.eq_zero_or_pos k with h | h
          · have := HZ0.out h
            rw [show isIn v 1 9 = false from decide_eq_false (fun h2 => by omega)]; rfl
          · have := HZK.out h
            rw [decide_eq_false (show ¬ k = 0 by omega), decide_eq_false (show ¬ xs.getD (k - 1) 0 < v by omega)]
            simp))
        clear HZ0 HZK HO HNk
        go_wp2_with fail
        go_ret
        exact ⟨by rw [HPE.out, HN.out]; rfl, HB.out⟩
      · cases hs : isIn v 1 9
        · have HN := Lib.hid (show riT xs n = false from HNk.out (by rw [HO.out, hs]; rfl))
          rw [hs] at T1
          clear HZ0 HZK HO HNk hs
          go_wp2_with fail
          refine (T1.out _).mono ?_
          rintro e w5 ⟨rfl, rfl⟩
          go_wp2_with fail
          go_ret
          exact ⟨by rw [HPE.out, HN.out]; rfl, HB.out⟩
        · have HT := Lib.hid (show riT xs (k + 1) = true by
            rw [HO.out, hs]
            rcases Nat.eq_zero_or_pos k with h | h
            · rw [decide_eq_true h]; rfl
            · have := HZK.out h
              rw [decide_eq_true (show xs.getD (k - 1) 0 < v by omega)]; simp)
          rw [hs] at T1
          clear HZ0 HZK HO HNk hs
          go_wp2_with fail
          refine (T1.out _).mono ?_
          rintro e w5 ⟨rfl, rfl⟩
          go_wp2_with fail
          go_roundw
          case rel => exact ⟨k + 1, v, by omega, by go_num, rfl, HBr.out, HT.out, fun h => by omega, fun _ => by rw [Nat.add_sub_cancel]; exact HXD.out.symm⟩
          case measure => simp [intOf]; omega
    · obtain rfl : k = n := by omega
      have HT := Lib.hid hck
      clear hb hck hz0 hzk
      go_wp2_with fail
      go_ret
      exact ⟨by rw [HPE.out, HT.out]; rfl, HB.out⟩
end Go.Proofs.YtdjcbfeilkepmaaDoor.pltu
