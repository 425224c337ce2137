/- The draws of spec for the law of heights' texts, nearest heights and rates. -/
import Derived.Test.YtbjlhnhmdhjleaaDoorDrawH
import Derived.Test.YtbjlhnhmdhjleaaDoorCurBits
import Derived.Test.YtbjlhnhmdhjleaaDoorHgtF
namespace Go.Proofs.YtbjlhnhmdhjleaaDoor.drawi
open Go.RowKit Go.Proofs.YtbjlhnhmdhjleaaDoor.cur Go.Proofs.YtbjlhnhmdhjleaaDoor.hgt Go.Proofs.YtbjlhnhmdhjleaaDoor.hgtt Go.Proofs.YtbjlhnhmdhjleaaDoor.drawh

theorem heightText (A : Option Addr) (n c : Nat) (w : World) (hn : n ≤ 65536) (h : Bytes w w.heap.size A n) :
    Calls Tryd.prog 7 #[.slice A n c] w (Int1 (-2001) 130001 w) := by
  have hc := Lib.hid (new_cur c (by omega) h)
  have hb0 : Below w.heap.size w (w.alloc (.cells #[.slice A n c, .int .i64 0, .int .u64 0] 42)) := (Below.refl _ _).alloc (Nat.le_refl _) _
  clear h
  go_enter Tryd.func7, Tryd.ntmps7
  go_wp2_with fail
  refine (height _ 0 _ hc.out (by omega)).mono ?_
  rintro e w1 ⟨x, rfl, x0, x1, hc1, hg1⟩
  have HB1 := Lib.hid (below_of_grown hb0 hg1)
  clear hc1 hg1 hb0
  go_wp2_with fail
  go_ret
  exact ⟨x, rfl, x0, x1, HB1.out⟩

theorem nearestHeight (A : Option Addr) (n c : Nat) (w : World) (hn : n ≤ 65536) (h : Bytes w w.heap.size A n) :
    Calls Tryd.prog 13 #[.slice A n c] w (IntBool (-2002) 130052 w) := by
  have hc := Lib.hid (new_cur c (by omega) h)
  have hb0 : Below w.heap.size w (w.alloc (.cells #[.slice A n c, .int .i64 0, .int .u64 0] 42)) := (Below.refl _ _).alloc (Nat.le_refl _) _
  clear h
  go_enter Tryd.func13, Tryd.ntmps13
  go_wp2_with fail
  refine (height _ 0 _ hc.out (by omega)).mono ?_
  rintro e w1 ⟨x, rfl, x0, x1, hc1, hg1⟩
  have HB1 := Lib.hid (below_of_grown hb0 hg1)
  have HC1 := Lib.hid hc1
  have BW := Lib.hid (show ∀ x ∈ ([0, 1, 12, 13, 49, 50, 51, -1] : List Int), -1 ≤ x ∧ x ≤ 51 by decide)
  clear hc1 hg1 hb0
  go_wp2_with fail
  refine (among_at (-1) 51 _ 4 8 _ [0, 1, 12, 13, 49, 50, 51, -1] _ w1 HC1.out (by omega) (by omega) (by omega) rfl rfl BW.out rfl).mono ?_
  rintro e w2 ⟨y, rfl, y0, y1, hc2, hg2⟩
  have HB2 := Lib.hid (below_of_grown HB1.out hg2)
  have HC2 := Lib.hid hc2
  clear hc2 hg2 HC1 HB1
  go_wp2_with fail
  refine (one _ _ 2 _ HC2.out (by omega) (by omega) (by omega)).mono ?_
  rintro e w3 ⟨f, rfl, hc3, hg3⟩
  have HB3 := Lib.hid (below_of_grown HB2.out hg3)
  clear hc3 hg3 HC2 HB2
  go_wp2_with fail
  go_ret2
  exact ⟨x + y, f, rfl, by omega, by omega, HB3.out⟩

theorem tx_small {h : Int} (h0 : -999999 ≤ h) (h1 : h ≤ 999999) : (txH h).size ≤ 24 := by
  unfold txH
  split
  · have := num.txt_size (h / 100) (by omega) (by omega)
    rw [ByteArray.size_append]
    have e : fl.size = 2 := rfl
    omega
  · have := num.txt_size h (by omega) (by omega)
    rw [ByteArray.size_append]
    have e : ft.size = 3 := rfl
    omega
def Str1 (k : Nat) (w : World) (e : Ending) (w' : World) : Prop := ∃ x : ByteArray, e = .returned (.string x) ∧ x.size ≤ k ∧ Below w.heap.size w w'
theorem parseHeight (A : Option Addr) (n c : Nat) (w : World) (hn : n ≤ 65536) (h : Bytes w w.heap.size A n) :
    Calls Tryd.prog 11 #[.slice A n c] w (Str1 25 w) := by
  have hc := Lib.hid (new_cur c (by omega) h)
  have hb0 : Below w.heap.size w (w.alloc (.cells #[.slice A n c, .int .i64 0, .int .u64 0] 42)) := (Below.refl _ _).alloc (Nat.le_refl _) _
  clear h
  go_enter Tryd.func11, Tryd.ntmps11
  go_wp2_with fail
  refine (height _ 0 _ hc.out (by omega)).mono ?_
  rintro e w1 ⟨x, rfl, x0, x1, hc1, hg1⟩
  have HB1 := Lib.hid (below_of_grown hb0 hg1)
  have HC1 := Lib.hid hc1
  have HT := Lib.hid (fun w => hgtf.text x w (by omega) (by omega))
  have hz := tx_small (h := x) (by omega) (by omega)
  clear hc1 hg1 hb0 x0 x1
  generalize txH x = t at *
  go_wp2_with fail
  refine (HT.out _).mono ?_
  rintro e w2 ⟨rfl, j, rfl⟩
  have HB2 := Lib.hid (aid.below_drewN HB1.out j)
  have HC2 := Lib.hid (cur_drewN HC1.out j)
  clear HB1 HC1 HT
  generalize w1.drewN j = W2 at *
  go_wp2_with fail
  refine (one _ 4 3 _ HC2.out (by omega) (by omega) (by omega)).mono ?_
  rintro e w3 ⟨f, rfl, hc3, hg3⟩
  have HB3 := Lib.hid (below_of_grown HB2.out hg3)
  have HC3 := Lib.hid hc3
  clear hc3 hg3 HC2 HB2
  cases f
  · go_wp2_with fail
    go_ret
    exact ⟨t, rfl, by omega, HB3.out⟩
  · go_wp2_with fail
    refine (spoilt _ 6 t ⟨#[70, 76, 48, 32, 102, 116, 45]⟩ w3 HC3.out (by omega) (by omega) (by decide) (by decide)).mono ?_
    rintro e w4 ⟨y, rfl, hy, hc4, hg4⟩
    have HB4 := Lib.hid (below_of_grown HB3.out hg4)
    have HY := Lib.hid (show y.size ≤ 25 from Nat.le_trans hy (by omega))
    clear hc4 hg4 HC3 HB3 hy
    go_wp2_with fail
    go_ret
    exact ⟨y, rfl, HY.out, HB4.out⟩

def Int4 (w : World) (e : Ending) (w' : World) : Prop := ∃ a f b t : Int, e = .returned (.tuple #[.int .i64 a, .int .i64 f, .int .i64 b, .int .i64 t]) ∧ Below w.heap.size w w'
set_option maxHeartbeats 1000000 in
theorem climbRate (A : Option Addr) (n c : Nat) (w : World) (hn : n ≤ 65536) (h : Bytes w w.heap.size A n) :
    Calls Tryd.prog 18 #[.slice A n c] w (Int4 w) := by
  have hc := new_cur c (by omega) h
  have hb0 : Below w.heap.size w (w.alloc (.cells #[.slice A n c, .int .i64 0, .int .u64 0] 42)) := (Below.refl _ _).alloc (Nat.le_refl _) _
  have HP := Lib.hid hc.lt
  have HC := Lib.hid (hc.keep ((Below.refl (w.heap.size + 1) _).alloc (by rw [World.size_alloc]; omega) (.cells #[.int .i64 0, .int .i64 10, .int .i64 86340, .int .i64 86400, .int .i64 (-1)] 3)))
  have BW := Lib.hid (show ∀ x ∈ ([0, 10, 86340, 86400, -1] : List Int), -1 ≤ x ∧ x ≤ 86400 by decide)
  have BX := Lib.hid (show ∀ x ∈ ([1, 7, 30, 60, 0, 86400] : List Int), 0 ≤ x ∧ x ≤ 86400 by decide)
  clear h hc
  go_enter Tryd.func18, Tryd.ntmps18
  go_wp2_with fail
  refine (pick _ 0 12 _ HC.out (by omega) (by omega) (by omega)).mono ?_
  rintro e w2 ⟨r, rfl, r0, r1, hc1, hg1⟩
  have HC1 := Lib.hid hc1
  have HG1 := Lib.hid hg1
  have HB1 := Lib.hid (below_of_grown hb0 (grown_trans (grown_alloc _ _) hg1))
  clear hc1 hg1 HC
  have hq : r / 11 = 0 ∨ r / 11 = 1 := by omega
  rcases hq with hq | hq
  all_goals
    go_wp2_with fail
    refine (among_old (-1) 86400 _ 2 _ 5 _ [0, 10, 86340, 86400, -1] _ _ w2 HC1.out (by omega) HG1.out (World.size_alloc _ _) HP.out rfl rfl (by omega) (by omega) (by omega) BW.out).mono ?_
    rintro e w3 ⟨f, rfl, f0, f1, hc2, hg2⟩
    have HB2 := Lib.hid (below_of_grown HB1.out hg2)
    have HC2 := Lib.hid hc2
    clear hc2 hg2 HC1 HG1 HB1 hb0 hq r0 r1 HP
    go_wp2_with fail
    refine (height _ 4 _ HC2.out (by omega)).mono ?_
    rintro e w4 ⟨a, rfl, a0, a1, hc3, hg3⟩
    have HB3 := Lib.hid (below_of_grown HB2.out hg3)
    have HC3 := Lib.hid hc3
    clear hc3 hg3 HC2 HB2
    go_wp2_with fail
    refine (height _ 8 _ HC3.out (by omega)).mono ?_
    rintro e w5 ⟨b, rfl, b0, b1, hc4, hg4⟩
    have HB4 := Lib.hid (below_of_grown HB3.out hg4)
    have HP := Lib.hid hc4.lt
    have HC4 := Lib.hid (hc4.keep ((Below.refl (w.heap.size + 1) _).alloc (by have := hc4.lt; omega) (.cells #[.int .i64 1, .int .i64 7, .int .i64 30, .int .i64 60, .int .i64 0, .int .i64 86400] 3)))
    clear hc4 hg4 HC3 HB3
    go_wp2_with fail
    refine (pick _ 12 24 _ HC4.out (by omega) (by omega) (by omega)).mono ?_
    rintro e w6 ⟨q, rfl, q0, q1, hc5, hg5⟩
    have HC5 := Lib.hid hc5
    have HG5 := Lib.hid hg5
    have HB5 := Lib.hid (below_of_grown HB4.out (grown_trans (grown_alloc _ _) hg5))
    clear hc5 hg5 HC4 HB4
    have hq : q / 11 = 0 ∨ q / 11 = 1 ∨ q / 11 = 2 := by omega
    rcases hq with hq | hq | hq
    all_goals
      go_wp2_with fail
      refine (among_old 0 86400 _ 14 _ 6 _ [1, 7, 30, 60, 0, 86400] _ _ w6 HC5.out (by omega) HG5.out rfl HP.out rfl rfl (by omega) (by omega) (by omega) BX.out).mono ?_
      rintro e w7 ⟨t, rfl, t0, t1, hc6, hg6⟩
      have HB6 := Lib.hid (below_of_grown HB5.out hg6)
      clear hc6 hg6 HC5 HB5 HG5
      go_wp2_with fail
      refine bodyPost_ret (v := .tuple #[.int .i64 a, .int .i64 f, .int .i64 b, .int .i64 (f + t)]) (by simp [results, Tryd.results18, go_sem]) rfl ⟨a, f, b, _, rfl, HB6.out⟩
end Go.Proofs.YtbjlhnhmdhjleaaDoor.drawi
