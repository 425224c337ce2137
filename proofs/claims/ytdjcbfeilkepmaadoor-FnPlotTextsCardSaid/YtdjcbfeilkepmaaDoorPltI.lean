/- impl's sightings: isSecond, isSiteNumber, isAddress, isSighting, IsValidSightings, areDuplicates. -/
import Derived.BigQuiet
import Derived.Deep.QuietTactic
import Derived.Deep.CutRange
import Derived.Test.YtdjcbfeilkepmaaDoorPltM
import Derived.Test.YtdjcbfeilkepmaaDoorPltE
import Derived.Test.YtdjcbfeilkepmaaDoorPosJ
import Derived.Test.YtdjcbfeilkepmaaDoorShelf
import Derived.Lib.QuietBelow
import Derived.Laws.Small
namespace Go.Proofs.YtdjcbfeilkepmaaDoor.plti
open Go.RowKit Go.Proofs.YtdjcbfeilkepmaaDoor.ints Go.Proofs.YtdjcbfeilkepmaaDoor.lst Go.Proofs.YtdjcbfeilkepmaaDoor.in_ Go.Proofs.YtdjcbfeilkepmaaDoor.ats Go.Proofs.YtdjcbfeilkepmaaDoor.pos Go.Proofs.YtdjcbfeilkepmaaDoor.plt Go.Proofs.YtdjcbfeilkepmaaDoor.pltm Go.Proofs.YtdjcbfeilkepmaaDoor.plte

theorem grows {P : Program} {f : FuncId} {args : Array Value} {w : World} {v : Value} (h : Calls P f args w fun e w' => e = .returned v ∧ w = w') : Calls P f args w fun e w' => e = .returned v ∧ Below w.heap.size w w' :=
  h.mono fun _ _ ⟨he, hw⟩ => ⟨he, hw ▸ Below.refl _ _⟩
theorem isSecond (x : Int) (w : World) : Calls Tryd.prog 35 #[.int .i64 x] w fun e w' => e = .returned (.bool (isIn x 0 86400)) ∧ w = w' := by
  by_cases h1 : 0 ≤ x
  · have g1 : decide (0 ≤ x) = true := decide_eq_true h1
    by_cases h2 : x ≤ 86400
    · rw [isIn_of h1 h2]
      go_enter Tryd.func35, Tryd.ntmps35
      go_wp2_with fail
      go_ret
      exact ⟨rfl, rfl⟩
    · rw [show isIn x 0 86400 = false from decide_eq_false (fun h => h2 h.2)]
      have g2 : decide (x ≤ 86400) = false := decide_eq_false h2
      go_enter Tryd.func35, Tryd.ntmps35
      go_wp2_with fail
      go_ret
      exact ⟨rfl, rfl⟩
  · rw [show isIn x 0 86400 = false from decide_eq_false (fun h => h1 h.1)]
    have g1 : decide (0 ≤ x) = false := decide_eq_false h1
    go_enter Tryd.func35, Tryd.ntmps35
    go_wp2_with fail
    go_ret
    exact ⟨rfl, rfl⟩
theorem isSiteNumber (x : Int) (w : World) : Calls Tryd.prog 38 #[.int .i64 x] w fun e w' => e = .returned (.bool (isIn x 1 9)) ∧ w = w' := by
  by_cases h1 : 1 ≤ x
  · have g1 : decide (1 ≤ x) = true := decide_eq_true h1
    by_cases h2 : x ≤ 9
    · rw [isIn_of h1 h2]
      go_enter Tryd.func38, Tryd.ntmps38
      go_wp2_with fail
      go_ret
      exact ⟨rfl, rfl⟩
    · rw [show isIn x 1 9 = false from decide_eq_false (fun h => h2 h.2)]
      have g2 : decide (x ≤ 9) = false := decide_eq_false h2
      go_enter Tryd.func38, Tryd.ntmps38
      go_wp2_with fail
      go_ret
      exact ⟨rfl, rfl⟩
  · rw [show isIn x 1 9 = false from decide_eq_false (fun h => h1 h.1)]
    have g1 : decide (1 ≤ x) = false := decide_eq_false h1
    go_enter Tryd.func38, Tryd.ntmps38
    go_wp2_with fail
    go_ret
    exact ⟨rfl, rfl⟩
theorem isAddress (x : Int) (w : World) : Calls Tryd.prog 36 #[.int .i64 x] w fun e w' => e = .returned (.bool (isIn x 1 65535)) ∧ w = w' := by
  by_cases h1 : 1 ≤ x
  · have g1 : decide (1 ≤ x) = true := decide_eq_true h1
    by_cases h2 : x ≤ 65535
    · rw [isIn_of h1 h2]
      go_enter Tryd.func36, Tryd.ntmps36
      go_wp2_with fail
      go_ret
      exact ⟨rfl, rfl⟩
    · rw [show isIn x 1 65535 = false from decide_eq_false (fun h => h2 h.2)]
      have g2 : decide (x ≤ 65535) = false := decide_eq_false h2
      go_enter Tryd.func36, Tryd.ntmps36
      go_wp2_with fail
      go_ret
      exact ⟨rfl, rfl⟩
  · rw [show isIn x 1 65535 = false from decide_eq_false (fun h => h1 h.1)]
    have g1 : decide (1 ≤ x) = false := decide_eq_false h1
    go_enter Tryd.func36, Tryd.ntmps36
    go_wp2_with fail
    go_ret
    exact ⟨rfl, rfl⟩

set_option maxRecDepth 100000 in
theorem isSighting (s t a x y : Int) (w : World) : Calls Tryd.prog 48 #[.agg #[.int .i64 s, .int .i64 t, .int .i64 a, .int .i64 x, .int .i64 y]] w fun e w' => e = .returned (.bool (sgB s t a x y)) ∧ Below w.heap.size w w' := by
  have E0 := Lib.hid (newS 72 #[.int .i64 s, .int .i64 t, .int .i64 a, .int .i64 x, .int .i64 y] w)
  have G1 := Lib.hid (fun w => isSecond s w)
  have G2 := Lib.hid (fun w => isSiteNumber t w)
  have G3 := Lib.hid (fun w => isAddress a w)
  have G4 := Lib.hid (fun w => posj.isValidPlace x y w)
  unfold sgB
  generalize isIn s 0 86400 = p1 at *
  generalize isIn t 1 9 = p2 at *
  generalize isIn a 1 65535 = p3 at *
  generalize pB x y = p4 at *
  cases p1
  · go_enter Tryd.func48, Tryd.ntmps48
    go_wp2_with fail
    refine (G1.out _).mono ?_
    rintro e w1 ⟨rfl, rfl⟩
    go_wp2_with fail
    go_ret
    exact ⟨rfl, E0.out.1⟩
    
  cases p2
  · go_enter Tryd.func48, Tryd.ntmps48
    go_wp2_with fail
    refine (G1.out _).mono ?_
    rintro e w1 ⟨rfl, rfl⟩
    go_wp2_with fail
    refine (G2.out _).mono ?_
    rintro e w2 ⟨rfl, rfl⟩
    go_wp2_with fail
    go_ret
    exact ⟨rfl, E0.out.1⟩
    
  cases p3
  · go_enter Tryd.func48, Tryd.ntmps48
    go_wp2_with fail
    refine (G1.out _).mono ?_
    rintro e w1 ⟨rfl, rfl⟩
    go_wp2_with fail
    refine (G2.out _).mono ?_
    rintro e w2 ⟨rfl, rfl⟩
    go_wp2_with fail
    refine (G3.out _).mono ?_
    rintro e w3 ⟨rfl, rfl⟩
    go_wp2_with fail
    go_ret
    exact ⟨rfl, E0.out.1⟩
    
  go_enter Tryd.func48, Tryd.ntmps48
  go_wp2_with fail
  refine (G1.out _).mono ?_
  rintro e w1 ⟨rfl, rfl⟩
  go_wp2_with fail
  refine (G2.out _).mono ?_
  rintro e w2 ⟨rfl, rfl⟩
  go_wp2_with fail
  refine (G3.out _).mono ?_
  rintro e w3 ⟨rfl, rfl⟩
  go_wp2_with fail
  refine (G4.out _).mono ?_
  rintro e w4 ⟨rfl, hb⟩
  have HE := Lib.hid (E0.out.old hb)
  clear hb
  go_wp2_with fail
  go_ret
  exact ⟨rfl, HE.out.1⟩

set_option maxRecDepth 100000 in
set_option maxHeartbeats 1000000 in
theorem areAllSighting (zs : List Int) (A : Option Addr) (n c : Nat) (w : World) (hn : n ≤ 1048577) (h1 : RdZ 5 w w.heap.size A n zs) :
    Calls Tryd.prog 47 #[.func (.func 48) #[] #[], .slice A n c] w fun e w' => e = .returned (.bool (alT zs n)) ∧ Below w.heap.size w w' := by
  go_enter Tryd.func47, Tryd.ntmps47
  go_wp2
  go_loopw [9] (fun i wr => ∃ k : Nat, k ≤ n ∧ i = .int .i64 k ∧ Below w.heap.size w wr ∧ alT zs k = true) (fun i _ => n - (intOf i).toNat)
  case atStart => exact ⟨0, Nat.zero_le _, rfl, Below.refl _ _, rfl⟩
  case round =>
    obtain ⟨k, hk, rfl, hb, hon⟩ := hrel
    by_cases hlt : k < n
    · obtain ⟨b1, o1, rfl, l1, p0, p1, p2, p3, p4⟩ := cellsE (h1.below hb (Nat.le_refl _)) hlt
      have hlt2 : (k : Int) < (n : Int) := by omega
      have X1 := Lib.hid (fun w => isSighting (fld 5 zs k 0) (fld 5 zs k 1) (fld 5 zs k 2) (fld 5 zs k 3) (fld 5 zs k 4) w)
      have HS := Lib.hid (show alT zs (k + 1) = (alT zs k && sgB (fld 5 zs k 0) (fld 5 zs k 1) (fld 5 zs k 2) (fld 5 zs k 3) (fld 5 zs k 4)) from rfl)
      have HX := Lib.hid (show alT zs (k + 1) = false → alT zs n = false from fun h => by
        cases hq : alT zs n
        · rfl
        · have := alT_of (fun j hj => alT_all hq j (by omega)) (n := k + 1)
          rw [h] at this; cases this)
      rw [hon, Bool.true_and] at HS
      have HB := Lib.hid (hb.alloc hb.size (.cells #[.int .i64 (fld 5 zs k 0), .int .i64 (fld 5 zs k 1), .int .i64 (fld 5 zs k 2), .int .i64 (fld 5 zs k 3), .int .i64 (fld 5 zs k 4)] 72))
      clear h1 hb hon
      generalize sgB (fld 5 zs k 0) (fld 5 zs k 1) (fld 5 zs k 2) (fld 5 zs k 3) (fld 5 zs k 4) = pb at *
      generalize fld 5 zs k 0 = u0 at *
      generalize fld 5 zs k 1 = u1 at *
      generalize fld 5 zs k 2 = u2 at *
      generalize fld 5 zs k 3 = u3 at *
      generalize fld 5 zs k 4 = u4 at *
      cases pb
      · have HN := Lib.hid (HX.out HS.out)
        clear HX HS
        go_wp2_with fail
        refine (X1.out _).mono ?_
        rintro e w2 ⟨rfl, hb2⟩
        have HBB := Lib.hid (HB.out.trans (hb2.mono HB.out.size))
        clear hb2
        go_wp2_with fail
        go_ret
        exact ⟨by rw [HN.out]; rfl, HBB.out⟩
      · have HT := Lib.hid HS.out
        clear HX HS
        go_wp2_with fail
        refine (X1.out _).mono ?_
        rintro e w2 ⟨rfl, hb2⟩
        have HBB := Lib.hid (HB.out.trans (hb2.mono HB.out.size))
        clear hb2 p0 p1 p2 p3 p4
        go_wp2_with fail
        go_roundw
        case rel => exact ⟨k + 1, by omega, by go_num, HBB.out, HT.out⟩
        case measure => simp [intOf]; omega
    · obtain rfl : k = n := by omega
      have HO := Lib.hid hon
      have HB := Lib.hid hb
      clear h1 hb hon
      go_wp2
      go_ret
      exact ⟨by rw [HO.out]; rfl, HB.out⟩

set_option maxRecDepth 100000 in
theorem byTime (s t a x y s' t' a' x' y' : Int) (w : World) :
    Calls Tryd.prog 50 #[.agg #[.int .i64 s, .int .i64 t, .int .i64 a, .int .i64 x, .int .i64 y], .agg #[.int .i64 s', .int .i64 t', .int .i64 a', .int .i64 x', .int .i64 y']] w fun e w' => e = .returned (.int .i64 (Lib.compareInt s s')) ∧ Below w.heap.size w w' := by
  have E0 := Lib.hid ((newS 72 #[.int .i64 s, .int .i64 t, .int .i64 a, .int .i64 x, .int .i64 y] w).alloc (.cells #[.int .i64 s', .int .i64 t', .int .i64 a', .int .i64 x', .int .i64 y'] 72))
  have G := Lib.hid (fun w => Tryd.cmp_Compare_int s s' w)
  generalize Lib.compareInt s s' = v at *
  go_enter Tryd.func50, Tryd.ntmps50
  go_wp2_with fail
  refine (G.out _).mono ?_
  rintro e w1 ⟨rfl, rfl⟩
  go_wp2_with fail
  go_ret
  exact ⟨rfl, E0.out.1⟩
theorem cmp_lt (x y : Int) : decide (Lib.compareInt x y < 0) = !decide (y ≤ x) := by
  unfold Lib.compareInt
  split
  · rw [decide_eq_true (by omega), decide_eq_false (by omega)]; rfl
  · split
    · rw [decide_eq_false (by omega), decide_eq_true (by omega)]; rfl
    · rw [decide_eq_false (by omega), decide_eq_true (by omega)]; rfl

set_option maxRecDepth 100000 in
set_option maxHeartbeats 1000000 in
theorem isSorted (zs : List Int) (A : Option Addr) (n c : Nat) (w : World) (hn : n ≤ 1048577) (h1 : RdZ 5 w w.heap.size A n zs) :
    Calls Tryd.prog 49 #[.slice A n c, .func (.func 50) #[] #[]] w fun e w' => e = .returned (.bool (srB zs n)) ∧ Below w.heap.size w w' := by
  have HN := Lib.hid (fun k (hk : k < n) (h0 : 0 < k) (h : ¬ fld 5 zs (k - 1) 0 ≤ fld 5 zs k 0) => show srB zs n = false from decide_eq_false (fun hh => h (hh k hk h0)))
  have HY := Lib.hid (fun (h : ∀ k, k < n → 0 < k → fld 5 zs (k - 1) 0 ≤ fld 5 zs k 0) => show srB zs n = true from decide_eq_true h)
  have HR := Lib.hid h1
  rcases Nat.eq_zero_or_pos n with h0 | h0
  · have HE := Lib.hid (HY.out (fun k hk => by omega))
    subst h0
    clear h1 HR
    have g1 : decide ((0 : Int) < (0 : Int) - 1) = false := rfl
    go_enter Tryd.func49, Tryd.ntmps49
    go_wp2_with fail
    go_loopw [5] (fun i wr => i = .int .i64 (-1) ∧ Below w.heap.size w wr) (fun i _ => 0)
    case atStart => exact ⟨rfl, Below.refl _ _⟩
    case round =>
      obtain ⟨rfl, hb⟩ := hrel
      go_wp2_with fail
      go_ret
      exact ⟨by rw [HE.out]; rfl, hb⟩
  obtain ⟨m, hm⟩ : ∃ m, m + 1 = n := ⟨n - 1, by omega⟩
  have hn0 : (0 : Int) ≤ (n : Int) := Int.natCast_nonneg _
  have e0 : IntKind.i64.wrap ((n : Int) - 1) = (m : Int) := by rw [IntWalk.i64_in _ (by omega)]; omega
  have HM := Lib.hid hm
  clear h1 h0 hm
  go_enter Tryd.func49, Tryd.ntmps49
  go_wp2_with fail
  go_loopw [5] (fun i wr => ∃ k : Nat, k ≤ m ∧ i = .int .i64 k ∧ Below w.heap.size w wr ∧ ∀ j, k < j → j < n → fld 5 zs (j - 1) 0 ≤ fld 5 zs j 0) (fun i _ => (intOf i).toNat)
  case atStart => exact ⟨m, Nat.le_refl _, rfl, Below.refl _ _, fun j h1 h2 => by have := HM.out; omega⟩
  case round =>
    obtain ⟨k, hk, rfl, hb, hsr⟩ := hrel
    have HB := Lib.hid hb
    have HSR := Lib.hid hsr
    rcases Nat.eq_zero_or_pos k with h0 | h0
    · have HE := Lib.hid (HY.out (fun j hj hj0 => hsr j (by omega) hj))
      subst h0
      clear hb hsr
      go_wp2_with fail
      go_ret
      exact ⟨by rw [HE.out]; rfl, HB.out⟩
    have hkn : k < n := by have := HM.out; omega
    obtain ⟨p, hp⟩ : ∃ p, p + 1 = k := ⟨k - 1, by omega⟩
    obtain ⟨b1, o1, rfl, l1, p0, p1, p2, p3, p4⟩ := cellsE (HR.out.below hb (Nat.le_refl _)) hkn
    obtain ⟨b2, o2, eA, l2, q0, q1, q2, q3, q4⟩ := cellsE (HR.out.below hb (Nat.le_refl _)) (show p < n by omega)
    obtain ⟨rfl, rfl⟩ : b1 = b2 ∧ o1 = o2 := by injection eA with e; injection e with e1 e2; exact ⟨e1, e2⟩
    have T0 := fun w => byTime (fld 5 zs k 0) (fld 5 zs k 1) (fld 5 zs k 2) (fld 5 zs k 3) (fld 5 zs k 4) (fld 5 zs p 0) (fld 5 zs p 1) (fld 5 zs p 2) (fld 5 zs p 3) (fld 5 zs p 4) w
    have T1 := Lib.hid (fun w d0 os => Calls.regrown_of (T0 (Sort.grow (redrawn w d0) os)))
    have DC := cmp_lt (fld 5 zs k 0) (fld 5 zs p 0)
    have hlt : (k : Int) < (n : Int) := by omega
    have hlt0 : (0 : Int) < (k : Int) := by omega
    have hk0 : 0 < k := h0
    have hp0 : (0 : Int) ≤ (p : Int) := Int.natCast_nonneg _
    have hpN : (p : Int) < (n : Int) := by omega
    have e1 : IntKind.i64.wrap ((k : Int) - 1) = (p : Int) := by rw [IntWalk.i64_in _ (by omega)]; omega
    have hpm : p ≤ m := by omega
    have HNp := Lib.hid (HN.out k hkn h0)
    rw [show k - 1 = p by omega] at HNp
    have HP := Lib.hid hp
    clear hb hsr T0 eA hp
    generalize Lib.compareInt (fld 5 zs k 0) (fld 5 zs p 0) = cv at *
    by_cases hs : fld 5 zs p 0 ≤ fld 5 zs k 0
    · rw [decide_eq_true hs] at DC
      have g2 : ¬ cv < 0 := of_decide_eq_false DC
      have HT := Lib.hid (show ∀ j, p < j → j < n → fld 5 zs (j - 1) 0 ≤ fld 5 zs j 0 from fun j h1 h2 => by
        have := HP.out
        rcases Nat.lt_or_ge k j with h | h
        · exact HSR.out j h h2
        · obtain rfl : j = k := by omega
          rw [show j - 1 = p by omega]; exact hs)
      clear HSR HNp hs DC
      generalize fld 5 zs k 0 = u0 at *
      generalize fld 5 zs p 0 = v0 at *
      generalize fld 5 zs k 1 = u1 at *
      generalize fld 5 zs p 1 = v1 at *
      generalize fld 5 zs k 2 = u2 at *
      generalize fld 5 zs p 2 = v2 at *
      generalize fld 5 zs k 3 = u3 at *
      generalize fld 5 zs p 3 = v3 at *
      generalize fld 5 zs k 4 = u4 at *
      generalize fld 5 zs p 4 = v4 at *
      go_wp2_with fail
      have p0' := fun d0 os => cell_regrown p0 d0 os
      have p1' := fun d0 os => cell_regrown p1 d0 os
      have p2' := fun d0 os => cell_regrown p2 d0 os
      have p3' := fun d0 os => cell_regrown p3 d0 os
      have p4' := fun d0 os => cell_regrown p4 d0 os
      have q0' := fun d0 os => cell_regrown q0 d0 os
      have q1' := fun d0 os => cell_regrown q1 d0 os
      have q2' := fun d0 os => cell_regrown q2 d0 os
      have q3' := fun d0 os => cell_regrown q3 d0 os
      have q4' := fun d0 os => cell_regrown q4 d0 os
      clear p0 p1 p2 p3 p4 q0 q1 q2 q3 q4
      refine wp_region_quiet_below (by kernel_rfl) (by kernel_rfl) ?_
      repeat (
        with_reducible refine wpQuiet_step (fun K hK => ?_)
        go_simp
        first
          | (refine hK _ ?_; clear hK K)
          | (apply Exists.intro
             refine ⟨fun _ => ?_, hK _ ?_⟩
             (first
               | (go_at_call 50; with_reducible exact T1.out _ _ _))
             clear hK K))
      with_reducible refine wpQuiet_nil ?_
      intro _ hw'
      obtain ⟨⟨dq, osq⟩, hw''⟩ := hw'
      subst hw''
      have hbl := Lib.hid (HB.out.trans ((below_regrown wr dq osq).mono HB.out.size))
      clear p0' p1' p2' p3' p4' q0' q1' q2' q3' q4' T1
      generalize Sort.grow (redrawn wr dq) osq = w3 at *
      have hbl2 := hbl
      clear hbl
      go_wp2_with fail
      go_roundw
      case rel => exact ⟨p, hpm, by go_num, hbl2.out, HT.out⟩
      case measure => have := HP.out; simp [intOf]; omega
    · rw [decide_eq_false hs] at DC
      have g2 : cv < 0 := of_decide_eq_true DC
      have HE := Lib.hid (HNp.out (by omega))
      clear HSR HNp hs DC
      generalize fld 5 zs k 0 = u0 at *
      generalize fld 5 zs p 0 = v0 at *
      generalize fld 5 zs k 1 = u1 at *
      generalize fld 5 zs p 1 = v1 at *
      generalize fld 5 zs k 2 = u2 at *
      generalize fld 5 zs p 2 = v2 at *
      generalize fld 5 zs k 3 = u3 at *
      generalize fld 5 zs p 3 = v3 at *
      generalize fld 5 zs k 4 = u4 at *
      generalize fld 5 zs p 4 = v4 at *
      go_wp2_with fail
      have p0' := fun d0 os => cell_regrown p0 d0 os
      have p1' := fun d0 os => cell_regrown p1 d0 os
      have p2' := fun d0 os => cell_regrown p2 d0 os
      have p3' := fun d0 os => cell_regrown p3 d0 os
      have p4' := fun d0 os => cell_regrown p4 d0 os
      have q0' := fun d0 os => cell_regrown q0 d0 os
      have q1' := fun d0 os => cell_regrown q1 d0 os
      have q2' := fun d0 os => cell_regrown q2 d0 os
      have q3' := fun d0 os => cell_regrown q3 d0 os
      have q4' := fun d0 os => cell_regrown q4 d0 os
      clear p0 p1 p2 p3 p4 q0 q1 q2 q3 q4
      refine wp_region_quiet_below (by kernel_rfl) (by kernel_rfl) ?_
      repeat (
        with_reducible refine wpQuiet_step (fun K hK => ?_)
        go_simp
        first
          | (refine hK _ ?_; clear hK K)
          | (apply Exists.intro
             refine ⟨fun _ => ?_, hK _ ?_⟩
             (first
               | (go_at_call 50; with_reducible exact T1.out _ _ _))
             clear hK K))
      with_reducible refine wpQuiet_nil ?_
      intro _ hw'
      obtain ⟨⟨dq, osq⟩, hw''⟩ := hw'
      subst hw''
      have hbl := Lib.hid (HB.out.trans ((below_regrown wr dq osq).mono HB.out.size))
      clear p0' p1' p2' p3' p4' q0' q1' q2' q3' q4' T1
      generalize Sort.grow (redrawn wr dq) osq = w3 at *
      go_wp2_with fail
      go_ret
      exact ⟨by rw [HE.out]; rfl, hbl.out⟩

theorem isValidSightings (zs : List Int) (A : Option Addr) (n c : Nat) (w : World) (hn : n ≤ 1048577) (h1 : RdZ 5 w w.heap.size A n zs) :
    Calls Tryd.prog 19 #[.slice A n c] w fun e w' => e = .returned (.bool (svB zs n)) ∧ Below w.heap.size w w' := by
  have HE := Lib.hid (show svB zs n = (decide (n ≤ 20) && (alT zs n && srB zs n)) by unfold svB; rw [ok_is, Bool.and_comm])
  have H1 := Lib.hid (areAllSighting zs A n c w hn h1)
  have H2 := Lib.hid (fun W (hb : Below w.heap.size w W) => isSorted zs A n c W hn (h1.next hb))
  clear h1
  generalize alT zs n = p at *
  generalize srB zs n = q at *
  by_cases h : n ≤ 20
  · rw [decide_eq_true h, Bool.true_and] at HE
    have g : (n : Int) ≤ 20 := by omega
    cases p
    · go_enter Tryd.func19, Tryd.ntmps19
      go_wp2_with fail
      refine H1.out.mono ?_
      rintro e w1 ⟨rfl, hb⟩
      go_wp2_with fail
      go_ret
      exact ⟨by rw [HE.out]; rfl, hb⟩
    · go_enter Tryd.func19, Tryd.ntmps19
      go_wp2_with fail
      refine H1.out.mono ?_
      rintro e w1 ⟨rfl, hb⟩
      go_wp2_with fail
      refine (H2.out _ hb).mono ?_
      rintro e w2 ⟨rfl, hb2⟩
      have HB := Lib.hid (hb.trans (hb2.mono hb.size))
      clear hb hb2
      go_wp2_with fail
      go_ret
      exact ⟨by rw [HE.out]; rfl, HB.out⟩
  · rw [decide_eq_false h, Bool.false_and] at HE
    have g : ¬ (n : Int) ≤ 20 := by omega
    go_enter Tryd.func19, Tryd.ntmps19
    go_wp2_with fail
    go_ret
    exact ⟨by rw [HE.out]; rfl, Below.refl _ _⟩

theorem absoluteOf (x : Int) (w : World) (hx : -8000000 ≤ x) (hx2 : x ≤ 8000000) :
    Calls Tryd.prog 96 #[.int .i64 x] w fun e w' => e = .returned (.int .i64 (x.natAbs : Int)) ∧ w = w' := by
  by_cases h : x < 0
  · have hm : x < -x := by omega
    rw [show (x.natAbs : Int) = -x by omega]
    go_enter Tryd.func96, Tryd.ntmps96
    go_wp2
    all_goals
      go_ret
      first | exact ⟨rfl, rfl⟩ | (exfalso; omega) | exact ⟨by rw [aid.ret_int (show max x (-x) = -x by omega)], rfl⟩ | exact ⟨aid.ret_int (show max x (-x) = -x by omega), rfl⟩
  · have hm : ¬ x < -x := by omega
    have g : decide (x < -x) = false := decide_eq_false hm
    rw [show (x.natAbs : Int) = x by omega]
    go_enter Tryd.func96, Tryd.ntmps96
    go_wp2
    all_goals
      go_ret
      first | exact ⟨rfl, rfl⟩ | (exfalso; omega) | exact ⟨by rw [aid.ret_int (show max x (-x) = x by omega)], rfl⟩ | exact ⟨aid.ret_int (show max x (-x) = x by omega), rfl⟩
set_option maxRecDepth 100000 in
theorem areDuplicates (ww r s t a x y s' t' a' x' y' : Int) (w : World) (hs : (0 ≤ s ∧ s ≤ 86400) ∧ 0 ≤ s' ∧ s' ≤ 86400) (hx : (0 ≤ x ∧ x ≤ 9899) ∧ 0 ≤ x' ∧ x' ≤ 9899) (hy : (0 ≤ y ∧ y ≤ 9899) ∧ 0 ≤ y' ∧ y' ≤ 9899) :
    Calls Tryd.prog 91 #[.agg #[.int .i64 s, .int .i64 t, .int .i64 a, .int .i64 x, .int .i64 y], .agg #[.int .i64 s', .int .i64 t', .int .i64 a', .int .i64 x', .int .i64 y'], .int .i64 ww, .int .i64 r] w fun e w' => e = .returned (.bool (tw ww r s a x y s' a' x' y')) ∧ Below w.heap.size w w' := by
  have E0 := Lib.hid (show Below w.heap.size w ((w.alloc (.cells #[.int .i64 s, .int .i64 t, .int .i64 a, .int .i64 x, .int .i64 y] 72)).alloc (.cells #[.int .i64 s', .int .i64 t', .int .i64 a', .int .i64 x', .int .i64 y'] 72)) from ((Below.refl _ _).alloc (Nat.le_refl _) _).alloc (by rw [World.size_alloc]; omega) _)
  have G1 := Lib.hid (fun w => absoluteOf (s - s') w (by omega) (by omega))
  have G2 := Lib.hid (fun w => absoluteOf (x - x') w (by omega) (by omega))
  have G3 := Lib.hid (fun w => absoluteOf (y - y') w (by omega) (by omega))
  have e1 : IntKind.i64.wrap (s - s') = s - s' := IntWalk.i64_in _ (by omega)
  have e2 : IntKind.i64.wrap (x - x') = x - x' := IntWalk.i64_in _ (by omega)
  have e3 : IntKind.i64.wrap (y - y') = y - y' := IntWalk.i64_in _ (by omega)
  unfold tw
  generalize ((s - s').natAbs : Int) = v1 at *
  generalize ((x - x').natAbs : Int) = v2 at *
  generalize ((y - y').natAbs : Int) = v3 at *
  clear hs hx hy
  by_cases h1 : a = a'
  · have g1 : (a == a') = true := beq_iff_eq.mpr h1
    rw [decide_eq_true h1]
    clear h1
    by_cases h2 : v1 ≤ ww
    · rw [decide_eq_true h2]
      by_cases h3 : v2 ≤ r
      · rw [decide_eq_true h3]
        go_enter Tryd.func91, Tryd.ntmps91
        go_wp2_with fail
        refine (G1.out _).mono ?_
        rintro e w1 ⟨rfl, rfl⟩
        go_wp2_with fail
        refine (G2.out _).mono ?_
        rintro e w2 ⟨rfl, rfl⟩
        go_wp2_with fail
        refine (G3.out _).mono ?_
        rintro e w3 ⟨rfl, rfl⟩
        go_wp2_with fail
        go_ret
        exact ⟨rfl, E0.out⟩
      · rw [decide_eq_false h3]
        go_enter Tryd.func91, Tryd.ntmps91
        go_wp2_with fail
        refine (G1.out _).mono ?_
        rintro e w1 ⟨rfl, rfl⟩
        go_wp2_with fail
        refine (G2.out _).mono ?_
        rintro e w2 ⟨rfl, rfl⟩
        go_wp2_with fail
        go_ret
        exact ⟨rfl, E0.out⟩
    · rw [decide_eq_false h2]
      go_enter Tryd.func91, Tryd.ntmps91
      go_wp2_with fail
      refine (G1.out _).mono ?_
      rintro e w1 ⟨rfl, rfl⟩
      go_wp2_with fail
      go_ret
      exact ⟨rfl, E0.out⟩
  · have g1 : (a == a') = false := beq_eq_false_iff_ne.mpr h1
    rw [decide_eq_false h1]
    clear h1
    go_enter Tryd.func91, Tryd.ntmps91
    go_wp2_with fail
    go_ret
    exact ⟨rfl, E0.out⟩

end Go.Proofs.YtdjcbfeilkepmaaDoor.plti
