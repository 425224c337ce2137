/- spec's draws for FnVelocities: DrawIsValidVelocity, DrawEncodeVelocity, DrawDecodeVelocity, DrawParseVelocity. -/
import Derived.Test.YtdeghpihcddlgaaDoorDrawW8
import Derived.Test.YtdeghpihcddlgaaDoorCurBits
import Derived.Test.YtdeghpihcddlgaaDoorVelT
import Derived.Test.YtdeghpihcddlgaaDoorVelY
import Derived.Test.YtdeghpihcddlgaaDoorVelP
namespace Go.Proofs.YtdeghpihcddlgaaDoor.drawx8
open Go.RowKit Go.Proofs.YtdeghpihcddlgaaDoor.code_ Go.Proofs.YtdeghpihcddlgaaDoor.cur Go.Proofs.YtdeghpihcddlgaaDoor.atc Go.Proofs.YtdeghpihcddlgaaDoor.ats Go.Proofs.YtdeghpihcddlgaaDoor.drawv8 Go.Proofs.YtdeghpihcddlgaaDoor.draww8 Go.Proofs.YtdeghpihcddlgaaDoor.vel

theorem at_grown {T : TypeId} {cs : Array Value} {w W W' : World} {b p : Nat} (h : AtS T cs w W b) (hg : W.grownBy W' (some p)) (hne : b ≠ p) (hp : w.heap.size ≤ p) : AtS T cs w W' b :=
  ⟨h.1.grown hg h.1.size (fun g e => by injection e with e; omega), h.2.1, Nat.lt_of_lt_of_le h.2.2.1 hg.size, (hg.block b h.2.2.1 (fun e => hne (by injection e))).trans h.2.2.2⟩
def Int1 (w : World) (e : Ending) (w' : World) : Prop := ∃ x, e = .returned (.int .i64 x) ∧ Below w.heap.size w w'
def Str1 (w : World) (e : Ending) (w' : World) : Prop := ∃ t : ByteArray, e = .returned (.string t) ∧ t.size ≤ 51 ∧ Below w.heap.size w w'
theorem en_in (x y : Int) : 0 ≤ enV x y ∧ enV x y ≤ 16777215 := by
  unfold enV
  split
  · rename_i h
    obtain ⟨h1, h2⟩ := vB_yes h
    have := pk_in h1
    have := pk_in h2
    unfold enc
    omega
  · omega
theorem vt_size (x y : Int) : (velw.vtT x y).size ≤ 50 := by
  unfold velw.vtT
  split
  · rename_i h
    obtain ⟨h1, h2⟩ := vB_yes h
    have z1 := velw.pt_size 69 87 h1
    have z2 := velw.pt_size 78 83 h2
    rcases velp.forms (x := x) (y := y) with ⟨-, -, e⟩ | ⟨-, -, e⟩ | ⟨-, -, e⟩ | ⟨-, -, e⟩
    · rw [e]; decide
    · rw [e]; omega
    · rw [e]; omega
    · rw [e, ByteArray.size_append, ByteArray.size_append]
      show _ + 1 + _ ≤ _
      omega
  · decide

set_option maxRecDepth 100000 in
set_option maxHeartbeats 2000000 in
theorem isValidVelocity (A : Option Addr) (n c : Nat) (w : World) (hn : n ≤ 65536) (h : Bytes w w.heap.size A n) :
    Calls Tryd.prog 21 #[.slice A n c] w (OneV w) := by
  have B0 := Lib.hid ((newS 25 #[.int .i64 0, .int .i64 0] w).alloc (.cells #[.slice A n c, .int .i64 0, .int .u64 0] 52))
  have hc := new_cur c (by omega) (bytes_al (.cells #[.int .i64 0, .int .i64 0] 25) h)
  rw [World.size_alloc] at hc
  have HC := Lib.hid hc
  clear h hc
  go_enter Tryd.func21, Tryd.ntmps21
  go_wp2_with fail
  generalize (w.alloc (.cells #[.int .i64 0, .int .i64 0] 25)).alloc (.cells #[.slice A n c, .int .i64 0, .int .u64 0] 52) = W at *
  refine (velocity _ 0 W HC.out (by omega)).mono ?_
  rintro e w1 ⟨x, y, rfl, -, hc1, hg1⟩
  have B1 := Lib.hid (at_grown B0.out hg1 (by omega) (by omega))
  have c_0 : w1.cell? ⟨w.heap.size, 0, none⟩ = some (.int .i64 0) := B1.out.cell 0
  have cf_0 : w1.frozen? ⟨w.heap.size, 0, none⟩ = false := B1.out.frozen 0
  have c_1 : w1.cell? ⟨w.heap.size, 1, none⟩ = some (.int .i64 0) := B1.out.cell 1
  have cf_1 : w1.frozen? ⟨w.heap.size, 1, none⟩ = false := B1.out.frozen 1
  have HE := Lib.hid ((B1.out.set 0 (.int .i64 x)).set 1 (.int .i64 y))
  clear hc1 hg1 B0 B1 HC
  go_wp2_with fail
  have hl := HE.out.load Tryd.underlying25 rfl (by kernel_rfl)
  refine bodyPost_ret (v := .agg #[.int .i64 x, .int .i64 y]) ?_ rfl ⟨_, _, rfl, HE.out.1⟩
  rw [results_cell1 rfl]
  simp [asAddr, Result.andThen, hl]

set_option maxRecDepth 100000 in
set_option maxHeartbeats 2000000 in
theorem encodeVelocity (A : Option Addr) (n c : Nat) (w : World) (hn : n ≤ 65536) (h : Bytes w w.heap.size A n) :
    Calls Tryd.prog 5 #[.slice A n c] w (OneV w) := by
  have B0 := Lib.hid (newS 25 #[.int .i64 0, .int .i64 0] w)
  have HX := Lib.hid (isValidVelocity A n c _ hn (bytes_al (.cells #[.int .i64 0, .int .i64 0] 25) h))
  clear h
  go_enter Tryd.func5, Tryd.ntmps5
  go_wp2_with fail
  generalize w.alloc (.cells #[.int .i64 0, .int .i64 0] 25) = W at *
  refine HX.out.mono ?_
  rintro e w1 ⟨x, y, rfl, hb1⟩
  have B1 := Lib.hid (B0.out.old hb1)
  have c_0 : w1.cell? ⟨w.heap.size, 0, none⟩ = some (.int .i64 0) := B1.out.cell 0
  have cf_0 : w1.frozen? ⟨w.heap.size, 0, none⟩ = false := B1.out.frozen 0
  have c_1 : w1.cell? ⟨w.heap.size, 1, none⟩ = some (.int .i64 0) := B1.out.cell 1
  have cf_1 : w1.frozen? ⟨w.heap.size, 1, none⟩ = false := B1.out.frozen 1
  have HE := Lib.hid ((B1.out.set 0 (.int .i64 x)).set 1 (.int .i64 y))
  clear hb1 B0 B1 HX
  go_wp2_with fail
  have hl := HE.out.load Tryd.underlying25 rfl (by kernel_rfl)
  refine bodyPost_ret (v := .agg #[.int .i64 x, .int .i64 y]) ?_ rfl ⟨_, _, rfl, HE.out.1⟩
  rw [results_cell1 rfl]
  simp [asAddr, Result.andThen, hl]

set_option maxRecDepth 100000 in
set_option maxHeartbeats 2000000 in
theorem parseVelocity (A : Option Addr) (n c : Nat) (w : World) (hn : n ≤ 65536) (h : Bytes w w.heap.size A n) :
    Calls Tryd.prog 19 #[.slice A n c] w (Str1 w) := by
  have hc := Lib.hid (new_cur c (by omega) h)
  have hb0 : Below w.heap.size w (w.alloc (.cells #[.slice A n c, .int .i64 0, .int .u64 0] 52)) := (Below.refl _ _).alloc (Nat.le_refl _) _
  clear h
  go_enter Tryd.func19, Tryd.ntmps19
  go_wp2_with fail
  refine (velocity _ 0 _ hc.out (by omega)).mono ?_
  rintro e w1 ⟨x, y, rfl, -, hc1, hg1⟩
  have hb1 := below_of_grown hb0 hg1
  have HC1 := Lib.hid hc1
  have VT := Lib.hid (fun w => vely.specText x y w)
  have hz := vt_size x y
  clear hc1 hg1 hc hb0
  generalize velw.vtT x y = t at *
  generalize vB x y = o at *
  go_wp2_with fail
  refine (VT.out _).mono ?_
  rintro e w2 ⟨rfl, hb2⟩
  have HC2 := Lib.hid (Cur.below HC1.out hb2)
  have HB2 := Lib.hid (hb1.trans (hb2.mono hb1.size))
  clear hb1 hb2 HC1 VT
  go_wp2_with fail
  refine (one _ _ 3 _ HC2.out (by omega) (by omega) (by omega)).mono ?_
  rintro e w3 ⟨f, rfl, hc3, hg3⟩
  have HB3 := Lib.hid (below_of_grown HB2.out hg3)
  have HC3 := Lib.hid hc3
  clear hc3 hg3 HC2 HB2
  cases f
  · go_wp2_with fail
    go_ret
    exact ⟨t, rfl, by omega, HB3.out⟩
  · go_wp2_with fail
    refine (spoilt _ _ t ⟨#[78, 69, 32, 48, 83, 87]⟩ w3 HC3.out (by omega) (by omega) (by decide) (by decide)).mono ?_
    rintro e w4 ⟨y, rfl, hy, hc4, hg4⟩
    have HB4 := Lib.hid (below_of_grown HB3.out hg4)
    have HY := Lib.hid (show y.size ≤ 51 from Nat.le_trans hy (by omega))
    clear hc4 hg4 HC3 HB3 hy
    go_wp2_with fail
    go_ret
    exact ⟨y, rfl, HY.out, HB4.out⟩

set_option maxRecDepth 100000 in
set_option maxHeartbeats 4000000 in
theorem decodeVelocity (A : Option Addr) (n c : Nat) (w : World) (hn : n ≤ 65536) (h : Bytes w w.heap.size A n) :
    Calls Tryd.prog 17 #[.slice A n c] w (Int1 w) := by
  have hc := Lib.hid (new_cur c (by omega) h)
  have hb0 : Below w.heap.size w (w.alloc (.cells #[.slice A n c, .int .i64 0, .int .u64 0] 52)) := (Below.refl _ _).alloc (Nat.le_refl _) _
  clear h
  go_enter Tryd.func17, Tryd.ntmps17
  go_wp2_with fail
  refine (velocity _ 0 _ hc.out (by omega)).mono ?_
  rintro e w1 ⟨x, y, rfl, -, hc1, hg1⟩
  have hb1 := below_of_grown hb0 hg1
  have HC1 := Lib.hid hc1
  have VE := Lib.hid (fun w => velt.encodeVelocity x y w)
  have hz := en_in x y
  clear hc1 hg1 hc hb0
  generalize enV x y = v at *
  generalize vB x y = o at *
  obtain ⟨hz0, hz1⟩ := hz
  go_wp2_with fail
  refine (VE.out _).mono ?_
  rintro e w2 ⟨rfl, hb2⟩
  have HC2 := Lib.hid (Cur.below HC1.out hb2)
  have HB2 := Lib.hid (hb1.trans (hb2.mono hb1.size))
  clear hb1 hb2 HC1 VE
  go_wp2_with fail
  refine (pick _ _ 6 _ HC2.out (by omega) (by omega) (by omega)).mono ?_
  rintro e w3 ⟨q, rfl, q0, q1, hc3, hg3⟩
  have HB3 := Lib.hid (below_of_grown HB2.out hg3)
  have HC3 := Lib.hid hc3
  clear hc3 hg3 HC2 HB2
  by_cases h0 : q = 0
  · subst h0
    go_wp2_with fail
    refine (among_new 1 3 _ _ 3 [1, 2, 3] _ w3 HC3.out (by omega) (by omega) (by omega) rfl rfl (by decide)).mono ?_
    rintro e w4 ⟨z, rfl, z0, z1, hc4, hg4⟩
    have hb4 := below_of_grown HB3.out hg4
    clear hc4 hg4 HC3
    go_wp2_with fail
    go_ret
    exact ⟨_, rfl, hb4⟩
  · have g0 : (q == 0) = false := by simpa using h0
    by_cases h1 : q = 1
    · subst h1
      clear h0 g0
      go_wp2_with fail
      refine (among_new (-1) 16777216 _ _ 5 [-1, 16777216, 16777215, 8388608, 4096] _ w3 HC3.out (by omega) (by omega) (by omega) rfl rfl (by decide)).mono ?_
      rintro e w4 ⟨z, rfl, z0, z1, hc4, hg4⟩
      have hb4 := below_of_grown HB3.out hg4
      clear hc4 hg4 HC3
      go_wp2_with fail
      go_ret
      exact ⟨_, rfl, hb4⟩
    · have g1 : (q == 1) = false := by simpa using h1
      clear h0 h1
      go_wp2_with fail
      go_ret
      exact ⟨_, rfl, HB3.out⟩
end Go.Proofs.YtdeghpihcddlgaaDoor.drawx8
