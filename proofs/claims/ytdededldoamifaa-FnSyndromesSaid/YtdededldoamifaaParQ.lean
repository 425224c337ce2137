/- slices.Index and slices.Contains at the patterns; impl's PatternOf, RepairBit and WeakestFlips. -/
import Derived.Test.YtdededldoamifaaParP
import Derived.Test.YtdededldoamifaaParB
namespace Go.Proofs.Ytdededldoamifaa.parq
open Go.RowKit Go.Proofs.Ytdededldoamifaa.bin Go.Proofs.Ytdededldoamifaa.pop_ Go.Proofs.Ytdededldoamifaa.good_ Go.Proofs.Ytdededldoamifaa.par Go.Proofs.Ytdededldoamifaa.parp

/-- The first n patterns lie in block b from offset o on. -/
def Pats (w : World) (b o n : Nat) : Prop := ∀ j, j < n → w.cell? ⟨b, o + j, none⟩ = some (.int .u64 (pat j : Nat))
theorem eq_ints {a b : Nat} (h : a = b) : ((a : Int) == (b : Int)) = true := by simp [h]
theorem ne_ints {a b : Nat} (h : a ≠ b) : ((a : Int) == (b : Int)) = false := by simp; omega

theorem index_hit (b o n c y j : Nat) (w : World) (hn : n ≤ 64) (hj : j < n) (hy : pat j = y) (h : Pats w b o n) :
    Calls Try.prog 43 #[.slice (some ⟨b, o, none⟩) n c, .int .u64 y] w fun e w' => e = .returned (.int .i64 j) ∧ w = w' := by
  have H := Lib.hid h
  clear h
  go_enter Try.func43, Try.ntmps43
  go_wp2_with fail
  go_loop [5, 8] (fun _ i => ∃ k : Nat, k ≤ j ∧ i = .int .i64 k) (fun _ i => j - (intOf i).toNat)
  case atStart => exact ⟨0, Nat.zero_le _, rfl⟩
  case round =>
    obtain ⟨k, hk, rfl⟩ := hrel
    have hc := H.out k (by omega)
    have hkn : (k : Int) < (n : Int) := by omega
    have hkn2 : k < n := by omega
    by_cases hkj : k = j
    · subst hkj
      have he := eq_ints hy.symm
      generalize pat k = p at *
      go_wp2_with fail
      go_ret
      exact ⟨rfl, rfl⟩
    · have he := ne_ints (show y ≠ pat k from fun e => hkj (pat_inj (by omega) (by omega) (e.symm.trans hy.symm)))
      clear hy
      generalize pat k = p at *
      go_wp2_with fail
      go_round
      case rel => exact ⟨k + 1, by omega, by go_num⟩
      case measure => simp [intOf]; omega

theorem index_miss (b o n c y : Nat) (w : World) (hn : n ≤ 64) (hy : ∀ j, j < n → pat j ≠ y) (h : Pats w b o n) :
    Calls Try.prog 43 #[.slice (some ⟨b, o, none⟩) n c, .int .u64 y] w fun e w' => e = .returned (.int .i64 (-1)) ∧ w = w' := by
  have H := Lib.hid h
  have HY := Lib.hid hy
  clear h hy
  go_enter Try.func43, Try.ntmps43
  go_wp2_with fail
  go_loop [5, 8] (fun _ i => ∃ k : Nat, k ≤ n ∧ i = .int .i64 k) (fun _ i => n - (intOf i).toNat)
  case atStart => exact ⟨0, Nat.zero_le _, rfl⟩
  case round =>
    obtain ⟨k, hk, rfl⟩ := hrel
    by_cases hkn2 : k < n
    · have hc := H.out k (by omega)
      have hkn : (k : Int) < (n : Int) := by omega
      have he := ne_ints (show y ≠ pat k from fun e => HY.out k hkn2 e.symm)
      generalize pat k = p at *
      go_wp2_with fail
      go_round
      case rel => exact ⟨k + 1, by omega, by go_num⟩
      case measure => simp [intOf]; omega
    · obtain rfl : k = n := by omega
      go_wp2_with fail
      go_ret
      exact ⟨rfl, rfl⟩

theorem contains (b o n c y : Nat) (w : World) (hn : n ≤ 64) (h : Pats w b o n) :
    Calls Try.prog 65 #[.slice (some ⟨b, o, none⟩) n c, .int .u64 y] w fun e w' => e = .returned (.bool (has n y)) ∧ w = w' := by
  cases hb : has n y
  · have HI := Lib.hid (index_miss b o n c y w hn (fun j hj => has_no hb hj) h)
    clear h hb
    go_enter Try.func65, Try.ntmps65
    go_wp2_with fail
    refine HI.out.mono ?_
    rintro e w' ⟨rfl, rfl⟩
    go_wp2_with fail
    go_ret
    exact ⟨rfl, rfl⟩
  · obtain ⟨j, hj, hy⟩ := (has_iff n y).1 hb
    have HI := Lib.hid (index_hit b o n c y j w hn hj hy h)
    have d1 : decide ((0 : Int) ≤ (j : Int)) = true := decide_eq_true (by omega)
    clear h hb hy
    go_enter Try.func65, Try.ntmps65
    go_wp2_with fail
    refine HI.out.mono ?_
    rintro e w' ⟨rfl, rfl⟩
    go_wp2_with fail
    go_ret
    exact ⟨rfl, rfl⟩

theorem ret_nat {a : Int} {b : Nat} (h : a = (b : Int)) : Ending.returned (.int .i64 a) = .returned (.int .i64 (b : Int)) := by rw [h]
theorem count (b o n c y : Nat) (w : World) (hn : n ≤ 64) (hy : y < 4096) (h : Pats w b o n) :
    Calls Try.prog 49 #[.int .u64 y, .slice (some ⟨b, o, none⟩) n c] w fun e w' => e = .returned (.int .i64 (weak n y : Nat)) ∧ w = w' := by
  have H := Lib.hid h
  have HC := Lib.hid (fun y => contains b o n c y w hn h)
  clear h
  by_cases h0 : y = 0
  · subst h0
    have HR := Lib.hid (ret_nat (a := 0) (b := weak n 0) (by rw [weak0]; rfl))
    go_enter Try.func49, Try.ntmps49
    go_wp2_with fail
    go_ret
    exact ⟨HR.out, rfl⟩
  · have e0 : ((y : Int) == 0) = false := by simp; omega
    have HC1 := Lib.hid (HC.out y)
    cases hb : has n y
    · rw [hb] at HC1
      have HN := Lib.hid hb
      clear hb
      go_enter Try.func49, Try.ntmps49
      go_wp2_with fail
      refine HC1.out.mono ?_
      rintro e w' ⟨rfl, rfl⟩
      go_wp2_with fail
      go_loop [6, 14] (fun _ i => ∃ k : Nat, k ≤ n ∧ i = .int .i64 k ∧ ∀ i, i < k → has n (y ^^^ pat i) = false) (fun _ i => n - (intOf i).toNat)
      case atStart => exact ⟨0, Nat.zero_le _, rfl, fun i hi => absurd hi (Nat.not_lt_zero _)⟩
      case round =>
        obtain ⟨k, hk, rfl, hno⟩ := hrel
        have HO := Lib.hid hno
        clear hno
        by_cases hkn2 : k < n
        · have hc := H.out k (by omega)
          have hkn : (k : Int) < (n : Int) := by omega
          have hpk : pat k < 4096 := red_lt 64 _
          have hx := pop_.xor_nat y (pat k) (by omega) (by omega)
          have HC2 := Lib.hid (HC.out (y ^^^ pat k))
          cases hb2 : has n (y ^^^ pat k)
          · rw [hb2] at HC2
            have HS := Lib.hid (show ∀ i, i < k + 1 → has n (y ^^^ pat i) = false from fun i hi => by
              by_cases hik : i < k
              · exact HO.out i hik
              · obtain rfl : i = k := by omega
                exact hb2)
            clear hb2 hpk
            generalize y ^^^ pat k = x at *
            generalize pat k = p at *
            go_wp2_with fail
            refine HC2.out.mono ?_
            rintro e w' ⟨rfl, rfl⟩
            go_wp2_with fail
            go_round
            case rel => exact ⟨k + 1, by omega, by go_num, HS.out⟩
            case measure => simp [intOf]; omega
          · have HR := Lib.hid (ret_nat (a := 2) (b := weak n y) (by
              obtain ⟨j, hj, e⟩ := (has_iff _ _).1 hb2
              rw [weak2 h0 HN.out ((two_iff _ _).2 ⟨k, j, hkn2, hj, e⟩)]; rfl))
            rw [hb2] at HC2
            clear hb2 hpk
            generalize y ^^^ pat k = x at *
            generalize pat k = p at *
            go_wp2_with fail
            refine HC2.out.mono ?_
            rintro e w' ⟨rfl, rfl⟩
            go_wp2_with fail
            go_ret
            exact ⟨HR.out, rfl⟩
        · obtain rfl : k = n := by omega
          have HR := Lib.hid (ret_nat (a := 3) (b := weak k y) (by rw [weak3 h0 HN.out (two_not HO.out)]; rfl))
          go_wp2_with fail
          go_ret
          exact ⟨HR.out, rfl⟩
    · rw [hb] at HC1
      have HR := Lib.hid (ret_nat (a := 1) (b := weak n y) (by rw [weak1 h0 hb]; rfl))
      clear hb
      go_enter Try.func49, Try.ntmps49
      go_wp2_with fail
      refine HC1.out.mono ?_
      rintro e w' ⟨rfl, rfl⟩
      go_wp2_with fail
      go_ret
      exact ⟨HR.out, rfl⟩

/-- The table of patterns in a block of its own. -/
theorem laid (w : World) : (storeCells ⟨w.heap.size, 0, none⟩ (cells 64).toList 0).run Try.prog (w.alloc (.cells (Array.replicate 64 (.int .u64 0)) 46)) = .ok () (w.alloc (.cells (cells 64) 46)) :=
  run_storeCells_new w 46 (Array.replicate 64 (.int .u64 0)) (cells 64) (by rw [cells_size]; exact zero46.2) (by rw [cells_size, Array.size_replicate]) (cells_one 64)
theorem laid_pats (w : World) (n : Nat) (hn : n ≤ 64) : Pats (w.alloc (.cells (cells 64) 46)) w.heap.size 0 n := fun j hj => by
  rw [Nat.zero_add, cell_of_row _ _ j (cells 64) 46 (0, 0) (heap_alloc_last w _), cells_at 64 j (by omega), if_pos (by omega)]
theorem laid_below (w : World) : Below w.heap.size w (w.alloc (.cells (cells 64) 46)) := (Below.refl _ _).alloc (Nat.le_refl _) _

theorem weakestFlips (s : ByteArray) (w : World) :
    Calls Try.prog 26 #[.string s] w fun e w' => e = .returned (.tuple #[.int .i64 (wkV s : Nat), .bool (sndB s)]) ∧ Below w.heap.size w w' := by
  have hc := fun w => pari.readSyn s w
  cases hb : sndB s
  · have HN := Lib.hid (wk_no hb)
    rw [hb] at hc HN
    have HC := Lib.hid hc
    clear hc hb
    generalize rsV s = v at *
    go_enter Try.func26, Try.ntmps26
    go_wp2_with fail
    refine (HC.out _).mono ?_
    rintro e w' ⟨rfl, rfl⟩
    go_wp2_with fail
    go_ret2
    exact ⟨HN.out, Below.refl _ _⟩
  · have HY := Lib.hid (wk_yes hb rfl)
    have ht : rsV s = syn s := by unfold rsV; rw [hb]; rfl
    have h64 : s.size ≤ 64 := (pari.rd_ok (snd_of hb).1).1
    have h64i : (s.size : Int) ≤ 64 := by omega
    have HZ := Lib.hid (fun b w h => count b 0 s.size 64 (syn s) w h64 (syn_lt s) h)
    rw [hb, ht] at hc
    rw [hb] at HY
    have HC := Lib.hid hc
    clear hc hb ht
    generalize syn s = v at *
    generalize weak s.size v = r at *
    have hz := zero46.1
    go_enter Try.func26, Try.ntmps26
    go_wp2_with fail
    refine (HC.out _).mono ?_
    rintro e w' ⟨rfl, rfl⟩
    go_wp2_with fail
    refine (patterns _).mono ?_
    rintro e w1 ⟨rfl, hb1⟩
    have hl := laid w1
    have hpt := Lib.hid (laid_pats w1 s.size h64)
    have hb2 := hb1.trans ((laid_below w1).mono hb1.size)
    go_wp2_with fail
    refine (HZ.out _ _ hpt.out).mono ?_
    rintro e w2 ⟨rfl, rfl⟩
    go_wp2_with fail
    go_ret2
    exact ⟨HY.out, hb2⟩

theorem repairBit (s : ByteArray) (w : World) :
    Calls Try.prog 20 #[.string s] w fun e w' => e = .returned (.tuple #[.string (repT s), .int .i64 (repI s), .bool (repB s)]) ∧ Below w.heap.size w w' := by
  have hc := fun w => pari.readSyn s w
  cases hb : sndB s
  · have HN := Lib.hid (rep_no1 hb)
    rw [hb] at hc
    have HC := Lib.hid hc
    clear hc hb
    generalize rsV s = v at *
    go_enter Try.func20, Try.ntmps20
    go_wp2_with fail
    refine (HC.out _).mono ?_
    rintro e w' ⟨rfl, rfl⟩
    go_wp2_with fail
    go_ret3
    exact ⟨HN.out, Below.refl _ _⟩
  · have ht : rsV s = syn s := by unfold rsV; rw [hb]; rfl
    have hrd := (snd_of hb).1
    have h64 : s.size ≤ 64 := (pari.rd_ok hrd).1
    have h64i : (s.size : Int) ≤ 64 := by omega
    rw [hb, ht] at hc
    have HC := Lib.hid hc
    clear hc ht
    by_cases h0 : syn s = 0
    · have HY := Lib.hid (rep_yes0 hb h0)
      rw [h0] at HC
      clear hb hrd h0
      go_enter Try.func20, Try.ntmps20
      go_wp2_with fail
      refine (HC.out _).mono ?_
      rintro e w' ⟨rfl, rfl⟩
      go_wp2_with fail
      go_ret3
      exact ⟨HY.out, Below.refl _ _⟩
    · have e0 : ((syn s : Int) == 0) = false := by simp; omega
      have hz := zero46.1
      cases hh : has s.size (syn s)
      · have HN := Lib.hid (rep_no2 h0 hh)
        have HX := Lib.hid (fun b w h => index_miss b 0 s.size 64 (syn s) w h64 (fun j hj => has_no hh hj) h)
        clear hb hrd h0 hh
        generalize syn s = v at *
        go_enter Try.func20, Try.ntmps20
        go_wp2_with fail
        refine (HC.out _).mono ?_
        rintro e w' ⟨rfl, rfl⟩
        go_wp2_with fail
        refine (patterns _).mono ?_
        rintro e w1 ⟨rfl, hb1⟩
        have hl := laid w1
        have hpt := Lib.hid (laid_pats w1 s.size h64)
        have hb2 := hb1.trans ((laid_below w1).mono hb1.size)
        go_wp2_with fail
        refine (HX.out _ _ hpt.out).mono ?_
        rintro e w2 ⟨rfl, rfl⟩
        go_wp2_with fail
        go_ret3
        exact ⟨HN.out, hb2⟩
      · obtain ⟨j, hj, hy⟩ := (has_iff _ _).1 hh
        have HX := Lib.hid (fun b w h => index_hit b 0 s.size 64 (syn s) j w h64 hj hy h)
        have f1 : IntKind.i64.wrap ((s.size : Int) - 1) = ((s.size - 1 : Nat) : Int) := (IntWalk.i64_in _ (by omega)).trans (by omega)
        have f2 : IntKind.i64.wrap (((s.size - 1 : Nat) : Int) - (j : Int)) = ((s.size - 1 - j : Nat) : Int) := (IntWalk.i64_in _ (by omega)).trans (by omega)
        have HY := Lib.hid (rep_yes1 (k := s.size - 1 - j) hb h0 (by omega) (by rw [show s.size - 1 - (s.size - 1 - j) = j by omega]; exact hy) h64)
        have hfb : bitsi.flipB s ((s.size - 1 - j : Nat) : Int) = true := by unfold bitsi.flipB; rw [hrd, decide_eq_true (by omega)]; rfl
        have hfv : bitsi.flipV s ((s.size - 1 - j : Nat) : Int) = flipT s (s.size - 1 - j) := by unfold bitsi.flipV; rw [hfb, Int.toNat_natCast]; rfl
        have hfl := fun w => bitsi.flipBit s ((s.size - 1 - j : Nat) : Int) w
        rw [hfb, hfv] at hfl
        have HF := Lib.hid hfl
        have hjn : decide ((j : Int) < 0) = false := decide_eq_false (by omega)
        clear hb hrd h0 hh hy hfb hfv hfl
        generalize syn s = v at *
        generalize s.size - 1 - j = k at *
        generalize s.size - 1 = m at *
        go_enter Try.func20, Try.ntmps20
        go_wp2_with fail
        refine (HC.out _).mono ?_
        rintro e w' ⟨rfl, rfl⟩
        go_wp2_with fail
        refine (patterns _).mono ?_
        rintro e w1 ⟨rfl, hb1⟩
        have hl := laid w1
        have hpt := Lib.hid (laid_pats w1 s.size h64)
        have hb2 := hb1.trans ((laid_below w1).mono hb1.size)
        go_wp2_with fail
        refine (HX.out _ _ hpt.out).mono ?_
        rintro e w2 ⟨rfl, rfl⟩
        clear hl
        go_wp2_with fail
        refine (HF.out _).mono ?_
        rintro e w3 ⟨rfl, hb3⟩
        have hb4 := hb2.trans (hb3.mono hb2.size)
        go_wp2_with fail
        go_ret3
        exact ⟨HY.out, hb4⟩

theorem patternOf (l i : Int) (w : World) :
    Calls Try.prog 28 #[.int .i64 l, .int .i64 i] w fun e w' => e = .returned (.tuple #[.string (ptT l i), .bool (ptB l i)]) ∧ Below w.heap.size w w' := by
  by_cases h1 : l < 12
  · have d1 : decide (l < 12) = true := decide_eq_true h1
    have HN := Lib.hid (pt_no (l := l) (i := i) (decide_eq_false (by omega)))
    clear h1
    go_enter Try.func28, Try.ntmps28
    go_wp2_with fail
    go_ret2
    exact ⟨HN.out, Below.refl _ _⟩
  · have d1 : decide (l < 12) = false := decide_eq_false h1
    by_cases h2 : 64 < l
    · have d2 : decide (64 < l) = true := decide_eq_true h2
      have HN := Lib.hid (pt_no (l := l) (i := i) (decide_eq_false (by omega)))
      clear h1 h2
      go_enter Try.func28, Try.ntmps28
      go_wp2_with fail
      go_ret2
      exact ⟨HN.out, Below.refl _ _⟩
    · have d2 : decide (64 < l) = false := decide_eq_false h2
      by_cases h3 : i < 0
      · have d3 : decide (i < 0) = true := decide_eq_true h3
        have HN := Lib.hid (pt_no (l := l) (i := i) (decide_eq_false (by omega)))
        clear h1 h2 h3
        go_enter Try.func28, Try.ntmps28
        go_wp2_with fail
        go_ret2
        exact ⟨HN.out, Below.refl _ _⟩
      · have d3 : decide (i < 0) = false := decide_eq_false h3
        by_cases h4 : l ≤ i
        · have d4 : decide (l ≤ i) = true := decide_eq_true h4
          have HN := Lib.hid (pt_no (l := l) (i := i) (decide_eq_false (by omega)))
          clear h1 h2 h3 h4
          go_enter Try.func28, Try.ntmps28
          go_wp2_with fail
          go_ret2
          exact ⟨HN.out, Below.refl _ _⟩
        · have d4 : decide (l ≤ i) = false := decide_eq_false h4
          obtain ⟨j, hj⟩ : ∃ j : Nat, (j : Int) = l - 1 - i := ⟨(l - 1 - i).toNat, by omega⟩
          have hj64 : j < 64 := by omega
          have hj64i : (j : Int) < 64 := by omega
          have HY := Lib.hid (pt_yes (decide_eq_true (by omega)) hj)
          have f1 : IntKind.i64.wrap (l - 1) = l - 1 := IntWalk.i64_in _ (by omega)
          have f2 : IntKind.i64.wrap (l - 1 - i) = (j : Int) := (IntWalk.i64_in _ (by omega)).trans hj.symm
          have hpk : pat j < 4096 := red_lt 64 _
          have HW := Lib.hid (fun w => digits_.write2 (pat j) 12 w (by omega) (by omega))
          have HW2 := Lib.hid (show ∀ w : World, Calls Try.prog 41 #[.int .u64 (pat j : Nat), .int .i64 12, .int .i64 1] w fun e w' => e = .returned (.string ⟨(enc 2 12 (pat j)).toArray⟩) ∧ Below w.heap.size w w' from HW.out)
          have HQ := Lib.hid (show ∀ w : World, (w.alloc (.cells (cells 64) 46)).cell? ⟨w.heap.size, j, none⟩ = some (.int .u64 (pat j : Nat)) from fun w => by
            have := laid_pats w 64 (Nat.le_refl _) j hj64
            rwa [Nat.zero_add] at this)
          have hz := zero46.1
          clear HW hj h1 h2 h3 h4 hpk
          generalize pat j = v at *
          go_enter Try.func28, Try.ntmps28
          go_wp2_with fail
          refine (patterns _).mono ?_
          rintro e w1 ⟨rfl, hb1⟩
          have hl := laid w1
          have hcell := HQ.out w1
          have hb2 := hb1.trans ((laid_below w1).mono hb1.size)
          go_wp2_with fail
          refine (HW2.out _).mono ?_
          rintro e w2 ⟨rfl, hb3⟩
          have hb4 := hb2.trans (hb3.mono hb2.size)
          go_wp2_with fail
          go_ret2
          exact ⟨HY.out, hb4⟩
end Go.Proofs.Ytdededldoamifaa.parq
