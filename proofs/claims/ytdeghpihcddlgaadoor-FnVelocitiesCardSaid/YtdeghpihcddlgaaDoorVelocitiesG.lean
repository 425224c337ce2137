/- For every code of at most 65536 bytes (and trivially for a longer one) the law FnVelocities returns true: what is drawn is a velocity, a number and a short text, whatever the bytes are; numbers, texts, directions and whole speeds are answered as the model answers, velocities are recovered from both, and the opposite one has the opposite direction. The card ties the three tables of strconv and math/bits to the program. No condition of mine. -/
import Derived.Test.YtdeghpihcddlgaaDoorCards
import Derived.Test.YtdeghpihcddlgaaDoorTie
import Derived.Test.YtdeghpihcddlgaaDoorDrawX8
import Derived.Test.YtdeghpihcddlgaaDoorVelJ
import Derived.Test.YtdeghpihcddlgaaDoorVelK
import Derived.Test.YtdeghpihcddlgaaDoorVelL
import Derived.Test.YtdeghpihcddlgaaDoorVelS
import Derived.Test.YtdeghpihcddlgaaDoorVelT
import Derived.Test.YtdeghpihcddlgaaDoorVelU
import Derived.Test.YtdeghpihcddlgaaDoorVelQ
import Derived.Test.YtdeghpihcddlgaaDoorVelR
import Derived.Test.YtdeghpihcddlgaaDoorCode
import Derived.WalkKit
import Derived.ProofKit
import Derived.OpenShut
import Derived.ShutString
import Derived.ChangeOld
import Derived.Below
import Derived.Deep.DeepCutAuto
import Derived.Deep.CutRange
import Derived.Stop.LaidErr
import Derived.Deep.DeepHandedRow
import Derived.Lib.LaidTab
namespace Go.Proofs.YtdeghpihcddlgaaDoor.fnVelocities
open Go.ChangeShapes Go.WideShapes Go.ChangeAt Go.RowKit
open Go.ChangeMaps (open_string shut_string)
open Go.Proofs.YtdeghpihcddlgaaDoor.code_ Go.Proofs.YtdeghpihcddlgaaDoor.cur Go.Proofs.YtdeghpihcddlgaaDoor.ats Go.Proofs.YtdeghpihcddlgaaDoor.vel
set_option linter.unusedVariables false

theorem bool_ne_self (b : Bool) : (b != b) = false := by simp
theorem bool_eq_self (b : Bool) : (b == b) = true := by simp
theorem int_ne_self (b : Int) : (b != b) = false := by simp
theorem int_eq_self (b : Int) : (b == b) = true := by simp
theorem str_ne_self (x : ByteArray) : (!(x.toList == x.toList)) = false := by simp
theorem dec_back {x y : Int} (e : vB x y = true) (w : World) :
    Calls Tryd.prog 15 #[.int .i64 (enV x y)] w fun e w' => e = .returned (.tuple #[.agg #[.int .i64 x, .int .i64 y], .bool true]) ∧ Below w.heap.size w w' := by
  have h := velj.decodeVelocity (enV x y) w
  have e1 : enV x y = enc x y := by unfold enV; rw [if_pos e]
  obtain ⟨a, b, c⟩ := dc_back e
  rw [e1] at h ⊢
  rw [a, b, c] at h
  exact h
theorem par_back {x y : Int} (e : vB x y = true) (w : World) (ht : fmt.Tab w) :
    Calls Tryd.prog 16 #[.string (velw.vtT x y)] w fun e w' => e = .returned (.tuple #[.agg #[.int .i64 x, .int .i64 y], .bool true]) ∧ Below w.heap.size w w' := by
  have hz := drawx8.vt_size x y
  have h := velq.implParse (velw.vtT x y) w (by omega) ht
  have e1 : velw.vtT x y = velw.vt x y := by unfold velw.vtT; rw [if_pos e]
  obtain ⟨a, b, c⟩ := velp.pv_good (s := velw.vt x y) e (by simp)
  rw [e1] at h ⊢
  unfold velp.pvX velp.pvY at h
  rw [a, if_pos rfl, if_pos rfl, b, c] at h
  exact h
theorem dir_back (x y : Int) (w : World) :
    Calls Tryd.prog 11 #[.agg #[.int .i64 (-x), .int .i64 (-y)]] w fun e w' => e = .returned (.tuple #[.int .i64 (if mB x y then (dirV x y + 4) % 8 else 0), .bool (mB x y)]) ∧ Below w.heap.size w w' := by
  have h := velk.directionOf (-x) (-y) w
  rw [dir_neg, mB_neg] at h
  exact h
/-- What is known of a velocity that is valid. -/
def Known (x y d ws : Int) : Prop := (-200 ≤ x ∧ x ≤ 200) ∧ (-200 ≤ y ∧ y ≤ 200) ∧ (0 ≤ x * x ∧ x * x ≤ 40000) ∧ (0 ≤ y * y ∧ y * y ≤ 40000) ∧ (0 ≤ d ∧ d ≤ 7) ∧ (0 ≤ ws ∧ ws ≤ 300) ∧ (0 ≤ ws * ws ∧ ws * ws ≤ x * x + y * y) ∧ (x * x + y * y < (ws + 1) * (ws + 1) ∧ (ws + 1) * (ws + 1) ≤ 100000)
theorem known {x y : Int} (e : vB x y = true) : Known x y (dirV x y) (wsV x y) := by
  obtain ⟨hx, hy⟩ := vB_yes e
  have h1 := self_le hx
  have h2 := self_le hy
  have h3 := ws_is e
  have h4 := ws_le x y
  have h5 := dir_in x y
  have h6 : ((wsV x y : Int) + 1) * ((wsV x y : Int) + 1) ≤ 301 * 301 := Int.mul_le_mul (by omega) (by omega) (by omega) (by omega)
  have h7 : (0 : Int) ≤ (wsV x y : Int) * (wsV x y : Int) := Int.mul_nonneg (by omega) (by omega)
  unfold sq at h3
  exact ⟨hx, hy, h1, h2, h5, ⟨by omega, by omega⟩, ⟨h7, h3.1⟩, h3.2, by omega⟩

set_option maxRecDepth 100000 in
set_option maxHeartbeats 16000000 in
theorem walk (A : Option Addr) (n c : Nat) (z : List Int) (w : World) (w0 : IsRow .u8 w A n c z) (ht : fmt.Tab w) :
    Calls Tryd.prog 3 #[.slice A n c] w fun e w' => e = .returned (.bool true) ∧ Below w.heap.size w w' := by
  obtain ⟨hby, hnc, -⟩ := bytes_of w0
  clear w0
  have hv := Lib.hid (fun w => rBig A n c w)
  by_cases hbig : (65536 : Int) < (n : Int)
  · clear hby ht
    go_enter Tryd.func3, Tryd.ntmps3
    go_wp2_with fail
    refine (hv.out _).mono ?_
    rintro e w1 ⟨rfl, rfl⟩
    go_wp2_with fail
    go_ret
    exact ⟨rfl, Below.refl _ _⟩
  · have hd : decide ((65536 : Int) < (n : Int)) = false := by simpa using hbig
    have hn : n ≤ 65536 := by omega
    have H := Lib.hid hby
    have TT := Lib.hid (fun (W : World) (hb : Below w.heap.size w W) => fmt.tab_on ht hb)
    clear hby hbig hnc ht
    have HB0 := Lib.hid (Below.refl w.heap.size w)
    go_enter Tryd.func3, Tryd.ntmps3
    go_wp2_with fail
    refine (hv.out _).mono ?_
    rintro e wx ⟨rfl, rfl⟩
    clear hd hv
    go_wp2_with fail
    refine (drawx8.encodeVelocity A n c _ hn (Bytes_below H.out HB0.out)).mono ?_
    rintro e V1 ⟨x, y, rfl, h1⟩
    have HB1 := Lib.hid (HB0.out.trans (h1.mono HB0.out.size))
    clear HB0 h1
    have I1 := Lib.hid (fun w => velj.encodeVelocity x y w)
    have I2 := Lib.hid (fun (W : World) (hb : Below w.heap.size w W) => vely.implText x y W (TT.out W hb))
    have S1 := Lib.hid (fun w => velt.encodeVelocity x y w)
    have I3 := Lib.hid (fun w => veli.isValidVelocity x y w)
    have S2 := Lib.hid (fun w => vely.specText x y w)
    have I4 := Lib.hid (fun w => velk.directionOf x y w)
    have S4 := Lib.hid (fun w => vels.directionOf x y w)
    have I5 := Lib.hid (fun w => vell.wholeSpeed x y w)
    have S5 := Lib.hid (fun w => velt.wholeSpeed x y w)
    have D1 := Lib.hid (fun (e : vB x y = true) w => dec_back e w)
    have P1 := Lib.hid (fun (e : vB x y = true) (W : World) (hb : Below w.heap.size w W) => par_back e W (TT.out W hb))
    have N1 := Lib.hid (fun w => dir_back x y w)
    have KN := Lib.hid (fun (e : vB x y = true) => known e)
    generalize enV x y = q at *
    generalize velw.vtT x y = s at *
    generalize dirV x y = d at *
    generalize mB x y = mm at *
    generalize (wsV x y : Int) = ws at *
    generalize vB x y = O at *
    have g0 := int_ne_self q
    have g1 := bool_ne_self O
    have g2 := str_ne_self s
    have g3 := int_ne_self d
    have g4 := bool_ne_self mm
    have g5 := int_ne_self ws
    have A2 := Lib.hid (newS 25 #[.int .i64 x, .int .i64 y] V1)
    have HB2a := Lib.hid (HB1.out.alloc HB1.out.size (.cells #[.int .i64 x, .int .i64 y] 25))
    clear HB1
    go_wp2_with fail
    generalize (V1.alloc (.cells #[.int .i64 x, .int .i64 y] 25)) = V3 at *
    generalize V1.heap.size = b3 at *
    refine (I1.out V3).mono ?_
    rintro e V4 ⟨rfl, h4⟩
    have HB4 := Lib.hid (HB2a.out.trans (h4.mono HB2a.out.size))
    have A4 := Lib.hid (A2.out.old h4)
    clear HB2a A2 h4
    have a0_ : V4.cell? ⟨b3, 0, none⟩ = some (.int .i64 x) := A4.out.cell 0
    have a1_ : V4.cell? ⟨b3, 1, none⟩ = some (.int .i64 y) := A4.out.cell 1
    have alt_ := A4.out.2.2.1
    go_wp2_with fail
    clear a0_ a1_ alt_
    refine (I2.out V4 HB4.out).mono ?_
    rintro e V5 ⟨rfl, h5⟩
    have HB5 := Lib.hid (HB4.out.trans (h5.mono HB4.out.size))
    have A5 := Lib.hid (A4.out.old h5)
    clear HB4 A4 h5
    have a0_ : V5.cell? ⟨b3, 0, none⟩ = some (.int .i64 x) := A5.out.cell 0
    have a1_ : V5.cell? ⟨b3, 1, none⟩ = some (.int .i64 y) := A5.out.cell 1
    have alt_ := A5.out.2.2.1
    go_wp2_with fail
    clear a0_ a1_ alt_
    refine (S1.out V5).mono ?_
    rintro e V6 ⟨rfl, h6⟩
    have HB6 := Lib.hid (HB5.out.trans (h6.mono HB5.out.size))
    have A6 := Lib.hid (A5.out.old h6)
    clear HB5 A5 h6
    have a0_ : V6.cell? ⟨b3, 0, none⟩ = some (.int .i64 x) := A6.out.cell 0
    have a1_ : V6.cell? ⟨b3, 1, none⟩ = some (.int .i64 y) := A6.out.cell 1
    have alt_ := A6.out.2.2.1
    go_wp2_with fail
    clear a0_ a1_ alt_
    refine (I3.out V6).mono ?_
    rintro e V7 ⟨rfl, h7⟩
    have HB7 := Lib.hid (HB6.out.trans (h7.mono HB6.out.size))
    have A7 := Lib.hid (A6.out.old h7)
    clear HB6 A6 h7
    have a0_ : V7.cell? ⟨b3, 0, none⟩ = some (.int .i64 x) := A7.out.cell 0
    have a1_ : V7.cell? ⟨b3, 1, none⟩ = some (.int .i64 y) := A7.out.cell 1
    have alt_ := A7.out.2.2.1
    go_wp2_with fail
    clear a0_ a1_ alt_
    refine (S2.out V7).mono ?_
    rintro e V8 ⟨rfl, h8⟩
    have HB8 := Lib.hid (HB7.out.trans (h8.mono HB7.out.size))
    have A8 := Lib.hid (A7.out.old h8)
    clear HB7 A7 h8
    have a0_ : V8.cell? ⟨b3, 0, none⟩ = some (.int .i64 x) := A8.out.cell 0
    have a1_ : V8.cell? ⟨b3, 1, none⟩ = some (.int .i64 y) := A8.out.cell 1
    have alt_ := A8.out.2.2.1
    go_wp2_with fail
    clear a0_ a1_ alt_
    refine (I4.out V8).mono ?_
    rintro e V9 ⟨rfl, h9⟩
    have HB9 := Lib.hid (HB8.out.trans (h9.mono HB8.out.size))
    have A9 := Lib.hid (A8.out.old h9)
    clear HB8 A8 h9
    have a0_ : V9.cell? ⟨b3, 0, none⟩ = some (.int .i64 x) := A9.out.cell 0
    have a1_ : V9.cell? ⟨b3, 1, none⟩ = some (.int .i64 y) := A9.out.cell 1
    have alt_ := A9.out.2.2.1
    go_wp2_with fail
    clear a0_ a1_ alt_
    refine (S4.out V9).mono ?_
    rintro e V10 ⟨rfl, h10⟩
    have HB10 := Lib.hid (HB9.out.trans (h10.mono HB9.out.size))
    have A10 := Lib.hid (A9.out.old h10)
    clear HB9 A9 h10
    have a0_ : V10.cell? ⟨b3, 0, none⟩ = some (.int .i64 x) := A10.out.cell 0
    have a1_ : V10.cell? ⟨b3, 1, none⟩ = some (.int .i64 y) := A10.out.cell 1
    have alt_ := A10.out.2.2.1
    go_wp2_with fail
    clear a0_ a1_ alt_
    refine (I5.out V10).mono ?_
    rintro e V11 ⟨rfl, h11⟩
    have HB11 := Lib.hid (HB10.out.trans (h11.mono HB10.out.size))
    have A11 := Lib.hid (A10.out.old h11)
    clear HB10 A10 h11
    have a0_ : V11.cell? ⟨b3, 0, none⟩ = some (.int .i64 x) := A11.out.cell 0
    have a1_ : V11.cell? ⟨b3, 1, none⟩ = some (.int .i64 y) := A11.out.cell 1
    have alt_ := A11.out.2.2.1
    go_wp2_with fail
    clear a0_ a1_ alt_
    refine (S5.out V11).mono ?_
    rintro e V12 ⟨rfl, h12⟩
    have HB12 := Lib.hid (HB11.out.trans (h12.mono HB11.out.size))
    have A12 := Lib.hid (A11.out.old h12)
    clear HB11 A11 h12
    clear I1 I2 S1 I3 S2 I4 S4 I5 S5 g0 g2 g5
    go_upto_if 124 with fail
    have BR13 := Lib.hid (Below.refl V12.heap.size V12)
    go_cut [] from 20 to 203 (fun wz => Below V12.heap.size V12 wz)
    case first =>
      cases O
      · clear D1 P1 N1 KN
        go_wp2_with fail
        go_meet
        exact BR13.out
      · have D2 := Lib.hid (D1.out rfl)
        have P2 := Lib.hid (P1.out rfl)
        obtain ⟨⟨x0, x1⟩, ⟨y0, y1⟩, ⟨xx0, xx1⟩, ⟨yy0, yy1⟩, ⟨d0, d1⟩, ⟨ws0, ws1⟩, ⟨ww0, ww1⟩, ww2, ww3⟩ := KN.out rfl
        have k1 : decide (x * x + y * y < ws * ws) = false := decide_eq_false (by omega)
        have k2 : decide ((ws + 1) * (ws + 1) ≤ x * x + y * y) = false := decide_eq_false (by omega)
        have k3 := int_ne_self x
        have k4 := int_ne_self y
        have k5 := int_ne_self ((d + 4) % 8)
        have k6 := int_eq_self x
        have k7 := int_eq_self y
        clear D1 P1 KN
        go_wp2_with fail
        refine (D2.out V12).mono ?_
        rintro e V14 ⟨rfl, h14⟩
        have HB14 := Lib.hid (HB12.out.trans (h14.mono HB12.out.size))
        have A14 := Lib.hid (A12.out.old h14)
        have BR15m := Lib.hid (BR13.out.trans (h14.mono BR13.out.size))
        clear HB12 A12 BR13 h14
        have P16 := Lib.hid (newS 25 #[.int .i64 x, .int .i64 y] V14)
        have A16a := Lib.hid (A14.out.alloc (.cells #[.int .i64 x, .int .i64 y] 25))
        clear A14
        have BR16d := Lib.hid (BR15m.out.alloc BR15m.out.size (.cells #[.int .i64 x, .int .i64 y] 25))
        clear BR15m
        have HB16a := Lib.hid (HB14.out.alloc HB14.out.size (.cells #[.int .i64 x, .int .i64 y] 25))
        clear HB14
        go_wp2_with fail
        generalize (V14.alloc (.cells #[.int .i64 x, .int .i64 y] 25)) = V17 at *
        generalize V14.heap.size = b17 at *
        refine (P2.out V17 HB16a.out).mono ?_
        rintro e V18 ⟨rfl, h18⟩
        have HB18 := Lib.hid (HB16a.out.trans (h18.mono HB16a.out.size))
        have A18 := Lib.hid (A16a.out.old h18)
        have P18 := Lib.hid (P16.out.old h18)
        have BR19m := Lib.hid (BR16d.out.trans (h18.mono BR16d.out.size))
        clear HB16a A16a P16 BR16d h18
        have Q20 := Lib.hid (newS 25 #[.int .i64 x, .int .i64 y] V18)
        have A20a := Lib.hid (A18.out.alloc (.cells #[.int .i64 x, .int .i64 y] 25))
        clear A18
        have P20a := Lib.hid (P18.out.alloc (.cells #[.int .i64 x, .int .i64 y] 25))
        clear P18
        have BR20d := Lib.hid (BR19m.out.alloc BR19m.out.size (.cells #[.int .i64 x, .int .i64 y] 25))
        clear BR19m
        have HB20a := Lib.hid (HB18.out.alloc HB18.out.size (.cells #[.int .i64 x, .int .i64 y] 25))
        clear HB18
        have a0_ : (V18.alloc (.cells #[.int .i64 x, .int .i64 y] 25)).cell? ⟨b3, 0, none⟩ = some (.int .i64 x) := A20a.out.cell 0
        have a1_ : (V18.alloc (.cells #[.int .i64 x, .int .i64 y] 25)).cell? ⟨b3, 1, none⟩ = some (.int .i64 y) := A20a.out.cell 1
        have alt_ := A20a.out.2.2.1
        cases mm
        · go_wp2_with fail
          clear a0_ a1_ alt_
          generalize (V18.alloc (.cells #[.int .i64 x, .int .i64 y] 25)) = V21 at *
          generalize V18.heap.size = b21 at *
          refine (N1.out V21).mono ?_
          rintro e V22 ⟨rfl, h22⟩
          have HB22 := Lib.hid (HB20a.out.trans (h22.mono HB20a.out.size))
          have A22 := Lib.hid (A20a.out.old h22)
          have P22 := Lib.hid (P20a.out.old h22)
          have Q22 := Lib.hid (Q20.out.old h22)
          have BR23m := Lib.hid (BR20d.out.trans (h22.mono BR20d.out.size))
          clear HB20a A20a P20a Q20 BR20d h22
          have a0_ : V22.cell? ⟨b3, 0, none⟩ = some (.int .i64 x) := A22.out.cell 0
          have a1_ : V22.cell? ⟨b3, 1, none⟩ = some (.int .i64 y) := A22.out.cell 1
          have alt_ := A22.out.2.2.1
          have p0_ : V22.cell? ⟨b17, 0, none⟩ = some (.int .i64 x) := P22.out.cell 0
          have p1_ : V22.cell? ⟨b17, 1, none⟩ = some (.int .i64 y) := P22.out.cell 1
          have plt_ := P22.out.2.2.1
          have q0_ : V22.cell? ⟨b21, 0, none⟩ = some (.int .i64 x) := Q22.out.cell 0
          have q1_ : V22.cell? ⟨b21, 1, none⟩ = some (.int .i64 y) := Q22.out.cell 1
          have qlt_ := Q22.out.2.2.1
          go_wp2_with fail
          clear a0_ a1_ alt_ p0_ p1_ plt_ q0_ q1_ qlt_
          go_meet
          exact BR23m.out
        · go_wp2_with fail
          clear a0_ a1_ alt_
          generalize (V18.alloc (.cells #[.int .i64 x, .int .i64 y] 25)) = V24 at *
          generalize V18.heap.size = b24 at *
          refine (N1.out V24).mono ?_
          rintro e V25 ⟨rfl, h25⟩
          have HB25 := Lib.hid (HB20a.out.trans (h25.mono HB20a.out.size))
          have A25 := Lib.hid (A20a.out.old h25)
          have P25 := Lib.hid (P20a.out.old h25)
          have Q25 := Lib.hid (Q20.out.old h25)
          have BR26m := Lib.hid (BR20d.out.trans (h25.mono BR20d.out.size))
          clear HB20a A20a P20a Q20 BR20d h25
          have a0_ : V25.cell? ⟨b3, 0, none⟩ = some (.int .i64 x) := A25.out.cell 0
          have a1_ : V25.cell? ⟨b3, 1, none⟩ = some (.int .i64 y) := A25.out.cell 1
          have alt_ := A25.out.2.2.1
          have p0_ : V25.cell? ⟨b17, 0, none⟩ = some (.int .i64 x) := P25.out.cell 0
          have p1_ : V25.cell? ⟨b17, 1, none⟩ = some (.int .i64 y) := P25.out.cell 1
          have plt_ := P25.out.2.2.1
          have q0_ : V25.cell? ⟨b24, 0, none⟩ = some (.int .i64 x) := Q25.out.cell 0
          have q1_ : V25.cell? ⟨b24, 1, none⟩ = some (.int .i64 y) := Q25.out.cell 1
          have qlt_ := Q25.out.2.2.1
          go_wp2_with fail
          clear a0_ a1_ alt_ p0_ p1_ plt_ q0_ q1_ qlt_
          go_meet
          exact BR26m.out
    case rest =>
      have hg13 := hcut
      have HB13c := Lib.hid (HB12.out.trans (hg13.mono HB12.out.size))
      have A13c := Lib.hid (A12.out.old hg13)
      clear HB12 A12 hg13 BR13
      generalize wc = V27 at *
      clear D1 P1 N1 KN g1 g3 g4
      go_wp2_with fail
      refine (drawx8.decodeVelocity A n c _ hn (Bytes_below H.out HB13c.out)).mono ?_
      rintro e V28 ⟨q2, rfl, h28⟩
      have HB28 := Lib.hid (HB13c.out.trans (h28.mono HB13c.out.size))
      have A28 := Lib.hid (A13c.out.old h28)
      clear HB13c A13c h28
      clear A28
      have I6 := Lib.hid (fun w => velj.decodeVelocity q2 w)
      have S6 := Lib.hid (fun w => velu.decodeVelocity q2 w)
      generalize dcX q2 = x2 at *
      generalize dcY q2 = y2 at *
      generalize dcB q2 = o2 at *
      have g0 := int_ne_self x2
      have g1 := int_ne_self y2
      have g2 := bool_ne_self o2
      have g3 := int_eq_self x2
      have g4 := int_eq_self y2
      go_wp2_with fail
      refine (I6.out V28).mono ?_
      rintro e V29 ⟨rfl, h29⟩
      have HB29 := Lib.hid (HB28.out.trans (h29.mono HB28.out.size))
      clear HB28 h29
      have R30 := Lib.hid (newS 25 #[.int .i64 x2, .int .i64 y2] V29)
      have HB30a := Lib.hid (HB29.out.alloc HB29.out.size (.cells #[.int .i64 x2, .int .i64 y2] 25))
      clear HB29
      go_wp2_with fail
      generalize (V29.alloc (.cells #[.int .i64 x2, .int .i64 y2] 25)) = V31 at *
      generalize V29.heap.size = b31 at *
      refine (S6.out V31).mono ?_
      rintro e V32 ⟨rfl, h32⟩
      have HB32 := Lib.hid (HB30a.out.trans (h32.mono HB30a.out.size))
      have R32 := Lib.hid (R30.out.old h32)
      clear HB30a R30 h32
      have T33 := Lib.hid (newS 25 #[.int .i64 x2, .int .i64 y2] V32)
      have R33a := Lib.hid (R32.out.alloc (.cells #[.int .i64 x2, .int .i64 y2] 25))
      clear R32
      have HB33a := Lib.hid (HB32.out.alloc HB32.out.size (.cells #[.int .i64 x2, .int .i64 y2] 25))
      clear HB32
      have r0_ : (V32.alloc (.cells #[.int .i64 x2, .int .i64 y2] 25)).cell? ⟨b31, 0, none⟩ = some (.int .i64 x2) := R33a.out.cell 0
      have r1_ : (V32.alloc (.cells #[.int .i64 x2, .int .i64 y2] 25)).cell? ⟨b31, 1, none⟩ = some (.int .i64 y2) := R33a.out.cell 1
      have rlt_ := R33a.out.2.2.1
      go_wp2_with fail
      clear r0_ r1_ rlt_
      generalize (V32.alloc (.cells #[.int .i64 x2, .int .i64 y2] 25)) = V34 at *
      generalize V32.heap.size = b34 at *
      refine (drawx8.parseVelocity A n c _ hn (Bytes_below H.out HB33a.out)).mono ?_
      rintro e V35 ⟨t3, rfl, hts, h35⟩
      have HB35 := Lib.hid (HB33a.out.trans (h35.mono HB33a.out.size))
      have R35 := Lib.hid (R33a.out.old h35)
      have T35 := Lib.hid (T33.out.old h35)
      clear HB33a R33a T33 h35
      clear R35
      clear T35
      clear I6 S6 g0 g1 g2 g3 g4
      have I7 := Lib.hid (fun (W : World) (hb : Below w.heap.size w W) => velq.implParse t3 W (by omega) (TT.out W hb))
      have S7 := Lib.hid (fun w => velr.specParse t3 w (by omega))
      clear hts
      generalize velp.pvX t3 = x3 at *
      generalize velp.pvY t3 = y3 at *
      generalize velp.pvB t3 = o3 at *
      have g0 := int_eq_self x3
      have g1 := int_eq_self y3
      have g2 := bool_eq_self o3
      go_wp2_with fail
      refine (I7.out V35 HB35.out).mono ?_
      rintro e V36 ⟨rfl, h36⟩
      have HB36 := Lib.hid (HB35.out.trans (h36.mono HB35.out.size))
      clear HB35 h36
      have M37 := Lib.hid (newS 25 #[.int .i64 x3, .int .i64 y3] V36)
      have HB37a := Lib.hid (HB36.out.alloc HB36.out.size (.cells #[.int .i64 x3, .int .i64 y3] 25))
      clear HB36
      go_wp2_with fail
      generalize (V36.alloc (.cells #[.int .i64 x3, .int .i64 y3] 25)) = V38 at *
      generalize V36.heap.size = b38 at *
      refine (S7.out V38).mono ?_
      rintro e V39 ⟨rfl, h39⟩
      have HB39 := Lib.hid (HB37a.out.trans (h39.mono HB37a.out.size))
      have M39 := Lib.hid (M37.out.old h39)
      clear HB37a M37 h39
      have U40 := Lib.hid (newS 25 #[.int .i64 x3, .int .i64 y3] V39)
      have M40a := Lib.hid (M39.out.alloc (.cells #[.int .i64 x3, .int .i64 y3] 25))
      clear M39
      have HB40a := Lib.hid (HB39.out.alloc HB39.out.size (.cells #[.int .i64 x3, .int .i64 y3] 25))
      clear HB39
      have m0_ : (V39.alloc (.cells #[.int .i64 x3, .int .i64 y3] 25)).cell? ⟨b38, 0, none⟩ = some (.int .i64 x3) := M40a.out.cell 0
      have m1_ : (V39.alloc (.cells #[.int .i64 x3, .int .i64 y3] 25)).cell? ⟨b38, 1, none⟩ = some (.int .i64 y3) := M40a.out.cell 1
      have mlt_ := M40a.out.2.2.1
      go_wp2_with fail
      clear m0_ m1_ mlt_
      generalize (V39.alloc (.cells #[.int .i64 x3, .int .i64 y3] 25)) = V41 at *
      generalize V39.heap.size = b41 at *
      go_ret
      exact ⟨rfl, HB40a.out⟩

theorem own : ownKnob Tryd.prog.godebug = none := by kernel_rfl
theorem laidOut : laidOutB Tryd.prog = true := by kernel_rfl

theorem gTab : Tryd.prog.globalNamed "internal/strconv.uint64pow10" = some 1 := by kernel_rfl
theorem gTabType : (Tryd.prog.globals[1]?).map (·.type) = some 81 := by kernel_rfl
theorem cellsTab : Tryd.prog.cellsOf 81 = 20 := by kernel_rfl
theorem cellsU : Tryd.prog.cellsOf 50 = 1 := by kernel_rfl
theorem table {W : World} (h : laidMet Tryd.prog Rows.fnVelocitiesRow.laid W) : Lib.TabIs Tryd.prog W "internal/strconv.uint64pow10" .u64 Lib.pow10Tab :=
  Lib.tabIs_of_head (rest := []) gTab gTabType Tryd.underlying81 Tryd.underlying50 cellsU cellsTab (laidMet.tail (laidMet.tail h))


set_option maxRecDepth 100000 in
theorem contract (H : Type) (enc : TypeId × Value → H) (W : World) (base : Nat) (args : Array Value) (ds gs : List (DataW H)) (before : List MemPlace)
    (hval : ∀ (j : Nat) t v, Tryd.f3.params[j]? = some t → args[j]? = some v → Value.okWide Tryd.prog W .any base t v)
    (hW : DataW.Whole enc Tryd.prog Tryd.f3.params.toList Rows.fnVelocitiesSpec.vars false W args.toList ds gs before) (hL : laidMetH Tryd.prog Rows.fnVelocitiesRow.laid W) :
    Calls Tryd.prog 3 args W fun e W' => ∃ v, e = .returned v ∧ Rows.fnVelocitiesSpec.post enc Tryd.prog Tryd.f3 false true false false W args v W' := by
  have hW' := hW
  obtain ⟨p, q, hA0, hV, rfl, hfz, hnd⟩ := hW
  have hA : DataW.TrodAll enc Tryd.prog W 0 (fun _ => true) true Tryd.f3.params.toList args.toList ds p := hA0
  rw [Tryd.params3] at hA hval
  obtain ⟨v0, vs0, d0, ds0, p0, q0, hargs, rfl, rfl, h0, r0⟩ := trodAll_cons hA
  obtain ⟨rfl, rfl, rfl⟩ := trodAll_nil r0
  obtain rfl : args = #[v0] := by cases args; simp_all
  obtain ⟨rfl, rfl⟩ := trodVars_none hV
  obtain ⟨a0, len0, cap0, rfl⟩ := okWide_slice Tryd.underlying22 (hval 0 22 v0 rfl rfl)
  have k0 := h0
  have lt0 : ∀ x ∈ p0, x.block < W.heap.size := by obtain ⟨m, hm⟩ := k0; exact DataW.trod_lt m _ _ _ hm
  obtain ⟨z0, w0⟩ : ∃ zs, IsRow .u8 W a0 len0 cap0 zs := by
    obtain ⟨fuel, hf⟩ := h0
    rcases open_ints Tryd.underlying22 Tryd.underlying5 (by kernel_rfl) hf with ⟨hcs, _⟩ | ⟨x, l, c, zs, hcs, _, hl, hm, hz, _, hcell, hwz⟩
    · simp [Value.cells] at hcs
      obtain ⟨rfl, rfl, rfl⟩ := hcs
      exact ⟨[], .inl ⟨rfl, rfl, rfl, rfl⟩⟩
    · simp [Value.cells] at hcs
      obtain ⟨rfl, rfl, rfl⟩ := hcs
      exact ⟨zs, .inr ⟨_, rfl, hl, hm, by simpa using hz, hcell, hwz⟩⟩
  clear hA0
  refine (walk a0 len0 cap0 z0 W w0 (table hL)).mono fun e W' ⟨he, bel⟩ => ?_
  subst he
  exact ⟨_, rfl, _, _, _, [], _, [], hW', trodAll_mk1 (shut_bool Tryd.underlying4 _), (trodAll_cons_mk (Below.trod laidOut (by kernel_rfl) (of_decide_eq_true (by kernel_rfl)) k0 bel lt0) trodAll_mk0), rfl, bel.frame _, fun h => by cases h⟩

noncomputable def laidWorld (os : Os) : World :=
  { World.holding Tryd.prog os ⟨#[], #[], []⟩ with heap := ((((World.holding Tryd.prog os ⟨#[], #[], []⟩).heap.modify 1 fun
      | .cells _ t frozen => .cells #[.int .u64 1, .int .u64 10, .int .u64 100, .int .u64 1000, .int .u64 10000, .int .u64 100000, .int .u64 1000000, .int .u64 10000000, .int .u64 100000000, .int .u64 1000000000, .int .u64 10000000000, .int .u64 100000000000, .int .u64 1000000000000, .int .u64 10000000000000, .int .u64 100000000000000, .int .u64 1000000000000000, .int .u64 10000000000000000, .int .u64 100000000000000000, .int .u64 1000000000000000000, .int .u64 10000000000000000000] t frozen
      | o => o).modify 2 fun
      | .cells _ t frozen => .cells #[.int .u8 0, .int .u8 1, .int .u8 28, .int .u8 2, .int .u8 29, .int .u8 14, .int .u8 24, .int .u8 3, .int .u8 30, .int .u8 22, .int .u8 20, .int .u8 15, .int .u8 25, .int .u8 17, .int .u8 4, .int .u8 8, .int .u8 31, .int .u8 27, .int .u8 13, .int .u8 23, .int .u8 21, .int .u8 19, .int .u8 16, .int .u8 7, .int .u8 26, .int .u8 12, .int .u8 18, .int .u8 6, .int .u8 11, .int .u8 5, .int .u8 10, .int .u8 9] t frozen
      | o => o).modify 3 fun
      | .cells _ t frozen => .cells #[.int .u8 0, .int .u8 1, .int .u8 56, .int .u8 2, .int .u8 57, .int .u8 49, .int .u8 28, .int .u8 3, .int .u8 61, .int .u8 58, .int .u8 42, .int .u8 50, .int .u8 38, .int .u8 29, .int .u8 17, .int .u8 4, .int .u8 62, .int .u8 47, .int .u8 59, .int .u8 36, .int .u8 45, .int .u8 43, .int .u8 51, .int .u8 22, .int .u8 53, .int .u8 39, .int .u8 33, .int .u8 30, .int .u8 24, .int .u8 18, .int .u8 12, .int .u8 5, .int .u8 63, .int .u8 55, .int .u8 48, .int .u8 27, .int .u8 60, .int .u8 41, .int .u8 37, .int .u8 16, .int .u8 46, .int .u8 35, .int .u8 44, .int .u8 21, .int .u8 52, .int .u8 32, .int .u8 23, .int .u8 11, .int .u8 54, .int .u8 26, .int .u8 40, .int .u8 15, .int .u8 34, .int .u8 20, .int .u8 31, .int .u8 10, .int .u8 25, .int .u8 14, .int .u8 19, .int .u8 9, .int .u8 13, .int .u8 8, .int .u8 7, .int .u8 6] t frozen
      | o => o) }
theorem laid_met (os : Os) : laidMet Tryd.prog Rows.fnVelocitiesRow.laid ((laidWorld os).forCall (fun _ _ => 0) ⟨#[], #[.slice none 0 0], []⟩).memory :=
  laidMet_of_run' 8 (by kernel_rfl) (by kernel_rfl)
theorem reads (os : Os) {H : Type} (enc : TypeId × Value → H) : ∃ places, DataW.whole enc Tryd.prog ((laidWorld os).forCall (fun _ _ => 0) ⟨#[], #[.slice none 0 0], []⟩).memory Tryd.f3.params.toList Rows.fnVelocitiesSpec.vars false (#[.slice none 0 0] : Array Value).toList 8 = some ([.nil], [], places) :=
  ⟨[], by kernel_rfl⟩

set_option maxRecDepth 100000 in
theorem lifted (os : Os) (started : os.Started) (H : Type) (enc : TypeId × Value → H) (F : Stop.Interp) :
    ReturnsInHanded {} Tryd.checked os 3 .any ((OpenSpec.ofChange Rows.fnVelocitiesSpec).preRow enc Tryd.prog Tryd.f3 Rows.fnVelocitiesRow.domain false Rows.fnVelocitiesRow.laid) (((OpenSpec.ofChange Rows.fnVelocitiesSpec).at F).post enc Tryd.prog Tryd.f3 false true false false) := by
  obtain ⟨places, hx⟩ := reads os enc
  refine returnsInHanded_of_row (C := Tryd.checked) (s := OpenSpec.ofChange Rows.fnVelocitiesSpec) own started (by kernel_rfl) Tryd.func3
    (witness_row_at (enc := enc) (C := Tryd.checked) false (laidWorld os) #[.slice none 0 0] rfl (by kernel_rfl) (by kernel_rfl) (by kernel_rfl)
      (OpenSpec.preRow_of_cond 8 hx (by kernel_rfl) (fun k hk => by cases hk) (by kernel_rfl) (laid_met os))) ?_
  intro W base args ds gs before hval hW _ _ _ hL _ _
  exact contract H enc W base args ds gs before hval hW hL

theorem said : Rows.FnVelocitiesSaid :=
  OpenClaim.holds_of_cond 3 Tryd.f3 rfl rfl rfl rfl rfl rfl rfl ⟨rfl, rfl, rfl, rfl, rfl⟩ rfl rfl rfl rfl rfl (by kernel_rfl) Tryd.func3 (by kernel_rfl)
    (of_decide_eq_true (by kernel_rfl)) (by unfold Func.isWrapper; first | (rw [if_pos (by decide +kernel)]; kernel_rfl) | (rw [if_neg (by decide +kernel)]; exact ⟨rfl, rfl⟩))
    (fun os started H enc _ F => by rw [OpenClaim.pre_eq_preRow]; exact lifted os started H enc F)

theorem plain (f : FuncId) (fn : Func) (hf : Tryd.pinned.checked.prog.funcNamed "loop.example/g00875/laws.FnVelocities" = some f) (hfn : Tryd.pinned.checked.prog.funcs[f]? = some fn) :
    false = Tryd.pinned.checked.prog.looks [] ∧ ∀ (j : Nat) t, fn.params[j]? = some t → Tryd.pinned.checked.prog.wantsStandIn t = false := by
  obtain rfl : f = 3 := Option.some.inj ((show Tryd.prog.funcNamed "loop.example/g00875/laws.FnVelocities" = some 3 by kernel_rfl).symm.trans hf) |>.symm
  obtain rfl : fn = Tryd.f3 := (Option.some.inj (Tryd.func3.symm.trans hfn)).symm
  refine ⟨by kernel_rfl, fun j t ht => ?_⟩
  rw [Tryd.params3] at ht
  have hm := Array.mem_of_getElem? ht
  simp at hm
  obtain rfl := hm
  exact (show Tryd.prog.wantsStandIn 22 = false by kernel_rfl)

theorem proved : Rows.FnVelocitiesCardSaid :=
  Claim7.holds_tied_plain_at .later [] _ _ _ _ said (fun _ h => by cases h) (by kernel_rfl) (fun _ h => by cases h) fnVelocities_row_tie rfl ⟨rfl, rfl⟩ (by kernel_rfl) rfl plain (by kernel_rfl)
#print axioms proved
end Go.Proofs.YtdeghpihcddlgaaDoor.fnVelocities
