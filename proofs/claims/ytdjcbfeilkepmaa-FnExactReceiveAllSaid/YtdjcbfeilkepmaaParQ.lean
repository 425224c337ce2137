/- slices.Index and slices.Contains at the patterns; impl's PatternOf, RepairBit and WeakestFlips. -/
import Derived.Test.YtdjcbfeilkepmaaParP
import Derived.Test.YtdjcbfeilkepmaaParB
namespace Go.Proofs.Ytdjcbfeilkepmaa.parq
open Go.RowKit Go.Proofs.Ytdjcbfeilkepmaa.bin Go.Proofs.Ytdjcbfeilkepmaa.pop_ Go.Proofs.Ytdjcbfeilkepmaa.good_ Go.Proofs.Ytdjcbfeilkepmaa.par Go.Proofs.Ytdjcbfeilkepmaa.parp

/-- The first n patterns lie in block b from offset o on. -/
def Pats (w : World) (b o n : Nat) : Prop := ∀ j, j < n → w.cell? ⟨b, o + j, none⟩ = some (.int .u64 (pat j : Nat))
theorem eq_ints {a b : Nat} (h : a = b) : ((a : Int) == (b : Int)) = true := by simp [h]
theorem ne_ints {a b : Nat} (h : a ≠ b) : ((a : Int) == (b : Int)) = false := by simp; omega

theorem index_hit (b o n c y j : Nat) (w : World) (hn : n ≤ 64) (hj : j < n) (hy : pat j = y) (h : Pats w b o n) :
    Calls Try.prog 200 #[.slice (some ⟨b, o, none⟩) n c, .int .u64 y] w fun e w' => e = .returned (.int .i64 j) ∧ w = w' := by
  have H := Lib.hid h
  clear h
  go_enter Try.func200, Try.ntmps200
  go_wp2_with fail
  go_loop [5, 8] (fun _ i => ∃ k : Nat, k ≤ j ∧ i = .int .i64 k) (fun _ i => j - (intOf i).toNat)
  case atStart => exact ⟨0, Nat.zero_le _, rfl⟩
  case round =>
    obtain ⟨k, hk, rfl⟩ := hrel
    have hc := H.out k (by omega)
    have hkn : (k : Int) < (n : Int) := by omega
    have hkn2 : k < n := by omega
    by_cases hkj : k = j
    · subst hkj
      have he := eq_ints hy.symm
      generalize pat k = p at *
      go_wp2_with fail
      go_ret
      exact ⟨rfl, rfl⟩
    · have he := ne_ints (show y ≠ pat k from fun e => hkj (pat_inj (by omega) (by omega) (e.symm.trans hy.symm)))
      clear hy
      generalize pat k = p at *
      go_wp2_with fail
      go_round
      case rel => exact ⟨k + 1, by omega, by go_num⟩
      case measure => simp [intOf]; omega

theorem index_miss (b o n c y : Nat) (w : World) (hn : n ≤ 64) (hy : ∀ j, j < n → pat j ≠ y) (h : Pats w b o n) :
    Calls Try.prog 200 #[.slice (some ⟨b, o, none⟩) n c, .int .u64 y] w fun e w' => e = .returned (.int .i64 (-1)) ∧ w = w' := by
  have H := Lib.hid h
  have HY := Lib.hid hy
  clear h hy
  go_enter Try.func200, Try.ntmps200
  go_wp2_with fail
  go_loop [5, 8] (fun _ i => ∃ k : Nat, k ≤ n ∧ i = .int .i64 k) (fun _ i => n - (intOf i).toNat)
  case atStart => exact ⟨0, Nat.zero_le _, rfl⟩
  case round =>
    obtain ⟨k, hk, rfl⟩ := hrel
    by_cases hkn2 : k < n
    · have hc := H.out k (by omega)
      have hkn : (k : Int) < (n : Int) := by omega
      have he := ne_ints (show y ≠ pat k from fun e => HY.out k hkn2 e.symm)
      generalize pat k = p at *
      go_wp2_with fail
      go_round
      case rel => exact ⟨k + 1, by omega, by go_num⟩
      case measure => simp [intOf]; omega
    · obtain rfl : k = n := by omega
      go_wp2_with fail
      go_ret
      exact ⟨rfl, rfl⟩

theorem ret_nat {a : Int} {b : Nat} (h : a = (b : Int)) : Ending.returned (.int .i64 a) = .returned (.int .i64 (b : Int)) := by rw [h]
/-- The table of patterns in a block of its own. -/
theorem laid (w : World) : (storeCells ⟨w.heap.size, 0, none⟩ (cells 64).toList 0).run Try.prog (w.alloc (.cells (Array.replicate 64 (.int .u64 0)) 214)) = .ok () (w.alloc (.cells (cells 64) 214)) :=
  run_storeCells_new w 214 (Array.replicate 64 (.int .u64 0)) (cells 64) (by rw [cells_size]; exact zero46.2) (by rw [cells_size, Array.size_replicate]) (cells_one 64)
theorem laid_pats (w : World) (n : Nat) (hn : n ≤ 64) : Pats (w.alloc (.cells (cells 64) 214)) w.heap.size 0 n := fun j hj => by
  rw [Nat.zero_add, cell_of_row _ _ j (cells 64) 214 (0, 0) (heap_alloc_last w _), cells_at 64 j (by omega), if_pos (by omega)]
theorem laid_below (w : World) : Below w.heap.size w (w.alloc (.cells (cells 64) 214)) := (Below.refl _ _).alloc (Nat.le_refl _) _

theorem repairBit (s : ByteArray) (w : World) :
    Calls Try.prog 171 #[.string s] w fun e w' => e = .returned (.tuple #[.string (repT s), .int .i64 (repI s), .bool (repB s)]) ∧ Below w.heap.size w w' := by
  have hc := fun w => pari.readSyn s w
  cases hb : sndB s
  · have HN := Lib.hid (rep_no1 hb)
    rw [hb] at hc
    have HC := Lib.hid hc
    clear hc hb
    generalize rsV s = v at *
    go_enter Try.func171, Try.ntmps171
    go_wp2_with fail
    refine (HC.out _).mono ?_
    rintro e w' ⟨rfl, rfl⟩
    go_wp2_with fail
    go_ret3
    exact ⟨HN.out, Below.refl _ _⟩
  · have ht : rsV s = syn s := by unfold rsV; rw [hb]; rfl
    have hrd := (snd_of hb).1
    have h64 : s.size ≤ 64 := (pari.rd_ok hrd).1
    have h64i : (s.size : Int) ≤ 64 := by omega
    rw [hb, ht] at hc
    have HC := Lib.hid hc
    clear hc ht
    by_cases h0 : syn s = 0
    · have HY := Lib.hid (rep_yes0 hb h0)
      rw [h0] at HC
      clear hb hrd h0
      go_enter Try.func171, Try.ntmps171
      go_wp2_with fail
      refine (HC.out _).mono ?_
      rintro e w' ⟨rfl, rfl⟩
      go_wp2_with fail
      go_ret3
      exact ⟨HY.out, Below.refl _ _⟩
    · have e0 : ((syn s : Int) == 0) = false := by simp; omega
      have hz := zero46.1
      cases hh : has s.size (syn s)
      · have HN := Lib.hid (rep_no2 h0 hh)
        have HX := Lib.hid (fun b w h => index_miss b 0 s.size 64 (syn s) w h64 (fun j hj => has_no hh hj) h)
        clear hb hrd h0 hh
        generalize syn s = v at *
        go_enter Try.func171, Try.ntmps171
        go_wp2_with fail
        refine (HC.out _).mono ?_
        rintro e w' ⟨rfl, rfl⟩
        go_wp2_with fail
        refine (patterns _).mono ?_
        rintro e w1 ⟨rfl, hb1⟩
        have hl := laid w1
        have hpt := Lib.hid (laid_pats w1 s.size h64)
        have hb2 := hb1.trans ((laid_below w1).mono hb1.size)
        go_wp2_with fail
        refine (HX.out _ _ hpt.out).mono ?_
        rintro e w2 ⟨rfl, rfl⟩
        go_wp2_with fail
        go_ret3
        exact ⟨HN.out, hb2⟩
      · obtain ⟨j, hj, hy⟩ := (has_iff _ _).1 hh
        have HX := Lib.hid (fun b w h => index_hit b 0 s.size 64 (syn s) j w h64 hj hy h)
        have f1 : IntKind.i64.wrap ((s.size : Int) - 1) = ((s.size - 1 : Nat) : Int) := (IntWalk.i64_in _ (by omega)).trans (by omega)
        have f2 : IntKind.i64.wrap (((s.size - 1 : Nat) : Int) - (j : Int)) = ((s.size - 1 - j : Nat) : Int) := (IntWalk.i64_in _ (by omega)).trans (by omega)
        have HY := Lib.hid (rep_yes1 (k := s.size - 1 - j) hb h0 (by omega) (by rw [show s.size - 1 - (s.size - 1 - j) = j by omega]; exact hy) h64)
        have hfb : bitsi.flipB s ((s.size - 1 - j : Nat) : Int) = true := by unfold bitsi.flipB; rw [hrd, decide_eq_true (by omega)]; rfl
        have hfv : bitsi.flipV s ((s.size - 1 - j : Nat) : Int) = flipT s (s.size - 1 - j) := by unfold bitsi.flipV; rw [hfb, Int.toNat_natCast]; rfl
        have hfl := fun w => bitsi.flipBit s ((s.size - 1 - j : Nat) : Int) w
        rw [hfb, hfv] at hfl
        have HF := Lib.hid hfl
        have hjn : decide ((j : Int) < 0) = false := decide_eq_false (by omega)
        clear hb hrd h0 hh hy hfb hfv hfl
        generalize syn s = v at *
        generalize s.size - 1 - j = k at *
        generalize s.size - 1 = m at *
        go_enter Try.func171, Try.ntmps171
        go_wp2_with fail
        refine (HC.out _).mono ?_
        rintro e w' ⟨rfl, rfl⟩
        go_wp2_with fail
        refine (patterns _).mono ?_
        rintro e w1 ⟨rfl, hb1⟩
        have hl := laid w1
        have hpt := Lib.hid (laid_pats w1 s.size h64)
        have hb2 := hb1.trans ((laid_below w1).mono hb1.size)
        go_wp2_with fail
        refine (HX.out _ _ hpt.out).mono ?_
        rintro e w2 ⟨rfl, rfl⟩
        clear hl
        go_wp2_with fail
        refine (HF.out _).mono ?_
        rintro e w3 ⟨rfl, hb3⟩
        have hb4 := hb2.trans (hb3.mono hb2.size)
        go_wp2_with fail
        go_ret3
        exact ⟨HY.out, hb4⟩

end Go.Proofs.Ytdjcbfeilkepmaa.parq
