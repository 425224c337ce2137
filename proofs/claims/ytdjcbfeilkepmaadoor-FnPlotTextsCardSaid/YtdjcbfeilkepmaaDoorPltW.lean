/- spec's valid plots: l1Rising, l13Plot, IsValidPlot. -/
import Derived.Test.YtdjcbfeilkepmaaDoorPltS
namespace Go.Proofs.YtdjcbfeilkepmaaDoor.pltw
open Go.RowKit Go.Proofs.YtdjcbfeilkepmaaDoor.ints Go.Proofs.YtdjcbfeilkepmaaDoor.lst Go.Proofs.YtdjcbfeilkepmaaDoor.in_ Go.Proofs.YtdjcbfeilkepmaaDoor.ats Go.Proofs.YtdjcbfeilkepmaaDoor.pos Go.Proofs.YtdjcbfeilkepmaaDoor.plt Go.Proofs.YtdjcbfeilkepmaaDoor.pltm Go.Proofs.YtdjcbfeilkepmaaDoor.plts

set_option maxRecDepth 100000 in
set_option maxHeartbeats 2000000 in
theorem rising1 (xs : List Int) (A : Option Addr) (n c : Nat) (w : World) (hn : n ≤ 1048577) (h1 : RdI w w.heap.size A n xs) :
    Calls Tryd.prog 68 #[.slice A n c, .int .i64 1, .int .i64 9] w fun e w' => e = .returned (.bool (riT xs n)) ∧ Below w.heap.size w w' := by
  have HNO := Lib.hid (fun k (hk : k < n) (h : riT xs (k + 1) = false) => riT_cut (n := n) h hk)
  have HR := Lib.hid h1
  clear h1
  go_enter Tryd.func68, Tryd.ntmps68
  go_wp2_with fail
  go_loopw [7] (fun i wr => ∃ k : Nat, k ≤ n ∧ i = .int .i64 k ∧ Below w.heap.size w wr ∧ riT xs k = true) (fun i _ => n - (intOf i).toNat)
  case atStart => exact ⟨0, Nat.zero_le _, rfl, Below.refl _ _, rfl⟩
  case round =>
    obtain ⟨k, hk, rfl, hb, hck⟩ := hrel
    have HB := Lib.hid hb
    by_cases hlt : k < n
    · have hlt2 : (k : Int) < (n : Int) := by omega
      obtain ⟨b1, o1, x, rfl, l1, hx, p0'⟩ := HR.out.at_ hlt
      have p0 := (hb.cell (p := ⟨b1, o1 + k, none⟩) l1).trans p0'
      have hxd : xs.getD k 0 = x := by rw [List.getD_eq_getElem?_getD, hx]; rfl
      have t1 := fun w => l1In x 1 9 w
      have HO := Lib.hid (show riT xs (k + 1) = (isIn x 1 9 && (decide (k = 0) || decide (xs.getD (k - 1) 0 < x))) by
        rw [show riT xs (k + 1) = (riT xs k && (isIn (xs.getD k 0) 1 9 && (decide (k = 0) || decide (xs.getD (k - 1) 0 < xs.getD k 0)))) from rfl, hck, Bool.true_and, hxd])
      have HNk := Lib.hid (HNO.out k hlt)
      have HZ := Lib.hid (fun p (hp : p < n) => by
        obtain ⟨b2, o2, z, eA, l2, hz, q0⟩ := HR.out.at_ hp
        obtain ⟨rfl, rfl⟩ : b1 = b2 ∧ o1 = o2 := by injection eA with e; injection e with e1 e2; exact ⟨e1, e2⟩
        exact (show ∃ z, wr.cell? ⟨b1, o1 + p, none⟩ = some (.int .i64 z) ∧ xs.getD p 0 = z from ⟨z, (hb.cell (p := ⟨b1, o1 + p, none⟩) l2).trans q0, by rw [List.getD_eq_getElem?_getD, hz]; rfl⟩))
      clear hb hck HNO hx hxd p0'
      cases ha : isIn x 1 9
      · have HN := Lib.hid (HNk.out (by rw [HO.out, ha]; rfl))
        rw [ha] at t1
        have T1 := Lib.hid (fun w d => aid.quiet_left (t1 (World.drewN w d)))
        clear t1 ha HO HZ
        go_wp2_with fail
        refine wp_region_quiet_lit (by kernel_rfl) (by kernel_rfl) ?_
        repeat (
          with_reducible refine wpQuiet_step (fun K hK => ?_)
          go_simp
          first
            | (refine hK _ ?_; clear hK K)
            | (apply Exists.intro
               refine ⟨fun _ => ?_, hK _ ?_⟩
               (first
                 | (go_at_call 67; with_reducible exact T1.out _ _))
               clear hK K))
        with_reducible refine wpQuiet_nil ?_
        intro _ hw'
        obtain ⟨nq, hw''⟩ := hw'
        subst hw''
        have hbk := Lib.hid (aid.below_drewN HB.out nq)
        go_wp2_with fail
        go_ret
        exact ⟨by rw [HN.out]; rfl, hbk.out⟩
      rw [ha] at t1
      have T1 := Lib.hid (fun w d => aid.quiet_left (t1 (World.drewN w d)))
      clear t1
      rcases Nat.eq_zero_or_pos k with h0 | h0
      · have HT := Lib.hid (show riT xs (k + 1) = true by rw [HO.out, ha, decide_eq_true h0]; rfl)
        subst h0
        rw [Nat.add_zero] at p0
        clear ha HO HNk HZ
        go_wp2_with fail
        refine wp_region_quiet_lit (by kernel_rfl) (by kernel_rfl) ?_
        repeat (
          with_reducible refine wpQuiet_step (fun K hK => ?_)
          go_simp
          first
            | (refine hK _ ?_; clear hK K)
            | (apply Exists.intro
               refine ⟨fun _ => ?_, hK _ ?_⟩
               (first
                 | (go_at_call 67; with_reducible exact T1.out _ _))
               clear hK K))
        with_reducible refine wpQuiet_nil ?_
        intro _ hw'
        obtain ⟨nq, hw''⟩ := hw'
        subst hw''
        have hbk := Lib.hid (aid.below_drewN HB.out nq)
        clear HB
        go_wp2_with fail
        go_roundw
        case rel => exact ⟨0 + 1, by omega, by go_num, hbk.out, HT.out⟩
        case measure => simp [intOf]; omega
      obtain ⟨p, hp⟩ : ∃ p, p + 1 = k := ⟨k - 1, by omega⟩
      rw [show k - 1 = p by omega] at HO
      have hpn2 : (p : Int) < (n : Int) := by omega
      have hp0 : (0 : Int) ≤ (p : Int) := Int.natCast_nonneg _
      have e1 : IntKind.i64.wrap ((k : Int) - 1) = (p : Int) := by rw [IntWalk.i64_in _ (by omega)]; omega
      have hk0 : decide (0 < k) = true := decide_eq_true h0
      obtain ⟨z, q0, hz⟩ := HZ.out p (by omega)
      rw [hz] at HO
      clear HZ hp hz
      by_cases hs : z < x
      · have HT := Lib.hid (show riT xs (k + 1) = true by rw [HO.out, ha, decide_eq_true hs]; simp)
        have hs2 : ¬ x ≤ z := by omega
        clear ha HO HNk
        go_wp2_with fail
        refine wp_region_quiet_lit (by kernel_rfl) (by kernel_rfl) ?_
        repeat (
          with_reducible refine wpQuiet_step (fun K hK => ?_)
          go_simp
          first
            | (refine hK _ ?_; clear hK K)
            | (apply Exists.intro
               refine ⟨fun _ => ?_, hK _ ?_⟩
               (first
                 | (go_at_call 67; with_reducible exact T1.out _ _))
               clear hK K))
        with_reducible refine wpQuiet_nil ?_
        intro _ hw'
        obtain ⟨nq, hw''⟩ := hw'
        subst hw''
        have hbk := Lib.hid (aid.below_drewN HB.out nq)
        clear HB
        go_wp2_with fail
        go_roundw
        case rel => exact ⟨k + 1, by omega, by go_num, hbk.out, HT.out⟩
        case measure => simp [intOf]; omega
      · have HN := Lib.hid (HNk.out (by rw [HO.out, ha, decide_eq_false hs, decide_eq_false (show ¬ k = 0 by omega)]; rfl))
        have hs2 : x ≤ z := by omega
        clear ha HO HNk hs
        go_wp2_with fail
        refine wp_region_quiet_lit (by kernel_rfl) (by kernel_rfl) ?_
        repeat (
          with_reducible refine wpQuiet_step (fun K hK => ?_)
          go_simp
          first
            | (refine hK _ ?_; clear hK K)
            | (apply Exists.intro
               refine ⟨fun _ => ?_, hK _ ?_⟩
               (first
                 | (go_at_call 67; with_reducible exact T1.out _ _))
               clear hK K))
        with_reducible refine wpQuiet_nil ?_
        intro _ hw'
        obtain ⟨nq, hw''⟩ := hw'
        subst hw''
        have hbk := Lib.hid (aid.below_drewN HB.out nq)
        go_wp2_with fail
        go_ret
        exact ⟨by rw [HN.out]; rfl, hbk.out⟩
    · obtain rfl : k = n := by omega
      have HE := Lib.hid hck
      clear hck HNO
      go_wp2_with fail
      go_ret
      exact ⟨by rw [HE.out]; rfl, HB.out⟩

set_option maxRecDepth 100000 in
theorem plot13 (s a x y : Int) (xs : List Int) (A : Option Addr) (n c : Nat) (w : World) (hn : n ≤ 1048577) (h1 : RdI w w.heap.size A n xs) :
    Calls Tryd.prog 33 #[.agg #[.int .i64 s, .int .i64 a, .int .i64 x, .int .i64 y, .slice A n c]] w fun e w' => e = .returned (.bool (plB s a x y xs n)) ∧ Below w.heap.size w w' := by
  have E0 := Lib.hid (newS 28 #[.int .i64 s, .int .i64 a, .int .i64 x, .int .i64 y, .slice A n c] w)
  have G1 := Lib.hid (fun w => second13 s w)
  have G2 := Lib.hid (fun w => address13 a w)
  have G3 := Lib.hid (fun w => poss.good7 x y w)
  have G4 := Lib.hid (fun w => l1In (n : Int) 1 9 w)
  have G5 := Lib.hid (fun (W : World) (hb : Below w.heap.size w W) => rising1 xs A n c W hn (h1.next hb))
  unfold plB
  clear h1
  generalize isIn s 0 86400 = p1 at *
  generalize isIn a 1 65535 = p2 at *
  generalize pB x y = p3 at *
  generalize isIn (n : Int) 1 9 = p4 at *
  generalize riT xs n = p5 at *
  cases p1
  · go_enter Tryd.func33, Tryd.ntmps33
    go_wp2_with fail
    refine (G1.out _).mono ?_
    rintro e w1 ⟨rfl, rfl⟩
    go_wp2_with fail
    go_ret
    exact ⟨rfl, E0.out.1⟩
    
  cases p2
  · go_enter Tryd.func33, Tryd.ntmps33
    go_wp2_with fail
    refine (G1.out _).mono ?_
    rintro e w1 ⟨rfl, rfl⟩
    go_wp2_with fail
    refine (G2.out _).mono ?_
    rintro e w2 ⟨rfl, rfl⟩
    go_wp2_with fail
    go_ret
    exact ⟨rfl, E0.out.1⟩
    
  cases p3
  · go_enter Tryd.func33, Tryd.ntmps33
    go_wp2_with fail
    refine (G1.out _).mono ?_
    rintro e w1 ⟨rfl, rfl⟩
    go_wp2_with fail
    refine (G2.out _).mono ?_
    rintro e w2 ⟨rfl, rfl⟩
    go_wp2_with fail
    refine (G3.out _).mono ?_
    rintro e w3 ⟨rfl, hb⟩
    have E3 := Lib.hid (E0.out.old hb)
    clear hb
    have c4 : w3.cell? ⟨w.heap.size, 4, none⟩ = some (.slice A n c) := E3.out.cell 4
    go_wp2_with fail
    go_ret
    exact ⟨rfl, E3.out.1⟩
    
  cases p4
  · go_enter Tryd.func33, Tryd.ntmps33
    go_wp2_with fail
    refine (G1.out _).mono ?_
    rintro e w1 ⟨rfl, rfl⟩
    go_wp2_with fail
    refine (G2.out _).mono ?_
    rintro e w2 ⟨rfl, rfl⟩
    go_wp2_with fail
    refine (G3.out _).mono ?_
    rintro e w3 ⟨rfl, hb⟩
    have E3 := Lib.hid (E0.out.old hb)
    clear hb
    have c4 : w3.cell? ⟨w.heap.size, 4, none⟩ = some (.slice A n c) := E3.out.cell 4
    go_wp2_with fail
    refine (G4.out _).mono ?_
    rintro e w4 ⟨rfl, rfl⟩
    go_wp2_with fail
    go_ret
    exact ⟨rfl, E3.out.1⟩
    
  go_enter Tryd.func33, Tryd.ntmps33
  go_wp2_with fail
  refine (G1.out _).mono ?_
  rintro e w1 ⟨rfl, rfl⟩
  go_wp2_with fail
  refine (G2.out _).mono ?_
  rintro e w2 ⟨rfl, rfl⟩
  go_wp2_with fail
  refine (G3.out _).mono ?_
  rintro e w3 ⟨rfl, hb⟩
  have E3 := Lib.hid (E0.out.old hb)
  clear hb
  have c4 : w3.cell? ⟨w.heap.size, 4, none⟩ = some (.slice A n c) := E3.out.cell 4
  go_wp2_with fail
  refine (G4.out _).mono ?_
  rintro e w4 ⟨rfl, rfl⟩
  go_wp2_with fail
  refine (G5.out _ E3.out.1).mono ?_
  rintro e w5 ⟨rfl, hb⟩
  have E5 := Lib.hid (E3.out.1.trans (hb.mono E3.out.1.size))
  clear hb c4
  go_wp2_with fail
  go_ret
  exact ⟨rfl, E5.out⟩

end Go.Proofs.YtdjcbfeilkepmaaDoor.pltw
