/- For every code of at most 65536 bytes (and trivially for a longer one) the law FnTurns returns true: turns are those of the model and turning back has the other side; comparing speeds is as the model does it and mutual; sums are those of the model and do not depend on the order. No condition of mine. -/
import Derived.Test.YtchhjjiidfacbaaRows
import Derived.Test.YtchhjjiidfacbaaDrawW8
import Derived.Test.YtchhjjiidfacbaaVelT
import Derived.Test.YtchhjjiidfacbaaCode
import Derived.WalkKit
import Derived.ProofKit
import Derived.OpenShut
import Derived.ShutString
import Derived.ChangeOld
import Derived.Below
import Derived.BigQuiet
import Derived.Deep.QuietTactic
import Derived.Deep.CutRange
namespace Go.Proofs.Ytchhjjiidfacbaa.fnTurns
open Go.ChangeShapes Go.WideShapes Go.ChangeAt Go.RowKit
open Go.ChangeMaps (open_string shut_string)
open Go.Proofs.Ytchhjjiidfacbaa.code_ Go.Proofs.Ytchhjjiidfacbaa.cur Go.Proofs.Ytchhjjiidfacbaa.ats Go.Proofs.Ytchhjjiidfacbaa.vel
set_option linter.unusedVariables false

theorem bool_ne_self (b : Bool) : (b != b) = false := by simp
theorem int_ne_self (b : Int) : (b != b) = false := by simp
theorem int_eq_self (b : Int) : (b == b) = true := by simp
theorem bool_eq_self (b : Bool) : (b == b) = true := by simp
theorem ft_in (a b c d : Int) : 0 ≤ ftV a b c d ∧ ftV a b c d ≤ 2 := by unfold ftV; repeat' split; all_goals omega
theorem back_other {a b c d : Int} : tuV c d a b = if tuV a b c d = 1 then 2 else if tuV a b c d = 2 then 1 else tuV a b c d := tu_back a b c d

set_option maxRecDepth 100000 in
set_option maxHeartbeats 16000000 in
theorem walk (A : Option Addr) (n c : Nat) (z : List Int) (w : World) (w0 : IsRow .u8 w A n c z) :
    Calls Try.prog 4 #[.slice A n c] w fun e w' => e = .returned (.bool true) ∧ Below w.heap.size w w' := by
  obtain ⟨hby, hnc, -⟩ := bytes_of w0
  clear w0
  have hv := Lib.hid (fun w => rBig A n c w)
  by_cases hbig : (65536 : Int) < (n : Int)
  · clear hby
    go_enter Try.func4, Try.ntmps4
    go_wp2_with fail
    refine (hv.out _).mono ?_
    rintro e w1 ⟨rfl, rfl⟩
    go_wp2_with fail
    go_ret
    exact ⟨rfl, Below.refl _ _⟩
  · have hd : decide ((65536 : Int) < (n : Int)) = false := by simpa using hbig
    have hn : n ≤ 65536 := by omega
    have H := Lib.hid hby
    clear hby hbig hnc
    have HB0 := Lib.hid (Below.refl w.heap.size w)
    go_enter Try.func4, Try.ntmps4
    go_wp2_with fail
    refine (hv.out _).mono ?_
    rintro e wx ⟨rfl, rfl⟩
    clear hd hv
    go_wp2_with fail
    refine (draww8.turnOf A n c _ hn (Bytes_below H.out HB0.out)).mono ?_
    rintro e V1 ⟨a, b, p, q, rfl, h1⟩
    have HB1 := Lib.hid (HB0.out.trans (h1.mono HB0.out.size))
    clear HB0 h1
    have T1 := Lib.hid (fun w => velk.turnOf a b p q w)
    have t2 := fun w => velk.turnOf p q a b w
    have TS := Lib.hid (fun w => vels.turnOf a b p q w)
    have ht := back_other (a := a) (b := b) (c := p) (d := q)
    rw [tu_turn] at t2
    have T2 := Lib.hid t2
    clear t2
    generalize tuV p q a b = t2 at *
    generalize tuV a b p q = t1 at *
    generalize tuB a b p q = o1 at *
    have HT := Lib.hid ht
    clear ht
    have g0 := int_ne_self t1
    have g1 := bool_ne_self o1
    have A2 := Lib.hid (newS 44 #[.int .i64 a, .int .i64 b] V1)
    have HB2a := Lib.hid (HB1.out.alloc HB1.out.size (.cells #[.int .i64 a, .int .i64 b] 44))
    clear HB1
    have B2 : Hid (AtS 44 #[.int .i64 p, .int .i64 q] V1 ((V1.alloc (.cells #[.int .i64 a, .int .i64 b] 44)).alloc (.cells #[.int .i64 p, .int .i64 q] 44)) (V1.heap.size + 1)) := Lib.hid (by have := (A2.out).next 44 #[.int .i64 p, .int .i64 q]; simpa only [World.size_alloc] using this)
    have A2xa := Lib.hid (A2.out.alloc (.cells #[.int .i64 p, .int .i64 q] 44))
    clear A2
    have HB2xa := Lib.hid (HB2a.out.alloc HB2a.out.size (.cells #[.int .i64 p, .int .i64 q] 44))
    clear HB2a
    go_wp2_with fail
    generalize ((V1.alloc (.cells #[.int .i64 a, .int .i64 b] 44)).alloc (.cells #[.int .i64 p, .int .i64 q] 44)) = V3 at *
    generalize V1.heap.size = b3 at *
    refine (T1.out V3).mono ?_
    rintro e V4 ⟨rfl, h4⟩
    have HB4 := Lib.hid (HB2xa.out.trans (h4.mono HB2xa.out.size))
    have A4 := Lib.hid (A2xa.out.old h4)
    have B4 := Lib.hid (B2.out.old h4)
    clear HB2xa A2xa B2 h4
    have a0_ : V4.cell? ⟨b3, 0, none⟩ = some (.int .i64 a) := A4.out.cell 0
    have a1_ : V4.cell? ⟨b3, 1, none⟩ = some (.int .i64 b) := A4.out.cell 1
    have alt_ := A4.out.2.2.1
    have b0_ : V4.cell? ⟨b3 + 1, 0, none⟩ = some (.int .i64 p) := B4.out.cell 0
    have b1_ : V4.cell? ⟨b3 + 1, 1, none⟩ = some (.int .i64 q) := B4.out.cell 1
    have blt_ := B4.out.2.2.1
    go_wp2_with fail
    clear a0_ a1_ alt_ b0_ b1_ blt_
    refine (T2.out V4).mono ?_
    rintro e V5 ⟨rfl, h5⟩
    have HB5 := Lib.hid (HB4.out.trans (h5.mono HB4.out.size))
    have A5 := Lib.hid (A4.out.old h5)
    have B5 := Lib.hid (B4.out.old h5)
    clear HB4 A4 B4 h5
    have a0_ : V5.cell? ⟨b3, 0, none⟩ = some (.int .i64 a) := A5.out.cell 0
    have a1_ : V5.cell? ⟨b3, 1, none⟩ = some (.int .i64 b) := A5.out.cell 1
    have alt_ := A5.out.2.2.1
    have b0_ : V5.cell? ⟨b3 + 1, 0, none⟩ = some (.int .i64 p) := B5.out.cell 0
    have b1_ : V5.cell? ⟨b3 + 1, 1, none⟩ = some (.int .i64 q) := B5.out.cell 1
    have blt_ := B5.out.2.2.1
    go_wp2_with fail
    clear a0_ a1_ alt_ b0_ b1_ blt_
    refine (TS.out V5).mono ?_
    rintro e V6 ⟨rfl, h6⟩
    have HB6 := Lib.hid (HB5.out.trans (h6.mono HB5.out.size))
    have A6 := Lib.hid (A5.out.old h6)
    have B6 := Lib.hid (B5.out.old h6)
    clear HB5 A5 B5 h6
    go_upto_region 9 with fail
    have BR7 := Lib.hid (Below.refl V6.heap.size V6)
    go_cut [92] from 65 to 91 (fun p70 wz => p70 = .bool false ∧ Below V6.heap.size V6 wz)
    case first =>
      cases o1
      · clear HT
        go_wp2_with fail
        go_meet
        exact ⟨rfl, BR7.out⟩
      · by_cases h1 : t1 = 1
        · obtain rfl : t2 = 2 := by have := HT.out; rw [if_pos h1] at this; exact this
          subst h1
          clear HT
          go_wp2_with fail
          go_meet
          exact ⟨rfl, BR7.out⟩
        · by_cases h2 : t1 = 2
          · obtain rfl : t2 = 1 := by have := HT.out; rw [if_neg h1, if_pos h2] at this; exact this
            subst h2
            clear HT h1
            go_wp2_with fail
            go_meet
            exact ⟨rfl, BR7.out⟩
          · obtain rfl : t2 = t1 := by have := HT.out; rw [if_neg h1, if_neg h2] at this; exact this
            have k1 : (t2 == 1) = false := by simpa using h1
            have k2 : (t2 == 2) = false := by simpa using h2
            have k3 : ((t2 == 3) != (t2 == 3)) = false := bool_ne_self _
            clear HT h1 h2
            generalize (t2 == 3) = b3 at *
            go_wp2_with fail
            go_meet
            exact ⟨rfl, BR7.out⟩
    case rest =>
      obtain ⟨rfl, hg7⟩ := hcut
      have HB7c := Lib.hid (HB6.out.trans (hg7.mono HB6.out.size))
      have A7c := Lib.hid (A6.out.old hg7)
      have B7c := Lib.hid (B6.out.old hg7)
      clear HB6 A6 B6 hg7 BR7
      generalize wc = V8 at *
      clear T1 T2 TS HT g0 g1
      go_wp2_with fail
      refine (draww8.fasterThan A n c _ hn (Bytes_below H.out HB7c.out)).mono ?_
      rintro e V9 ⟨a2, b2, p2, q2, rfl, h9⟩
      have HB9 := Lib.hid (HB7c.out.trans (h9.mono HB7c.out.size))
      have A9 := Lib.hid (A7c.out.old h9)
      have B9 := Lib.hid (B7c.out.old h9)
      clear HB7c A7c B7c h9
      clear A9
      clear B9
      have F1 := Lib.hid (fun w => velk.fasterThan a2 b2 p2 q2 w)
      have f2 := fun w => velk.fasterThan p2 q2 a2 b2 w
      have FS := Lib.hid (fun w => vels.fasterThan a2 b2 p2 q2 w)
      have hs := ft_sum a2 b2 p2 q2
      have i1 := ft_in a2 b2 p2 q2
      have i2 := ft_in p2 q2 a2 b2
      rw [ft_turn] at f2
      have F2 := Lib.hid f2
      clear f2
      generalize ftV p2 q2 a2 b2 = s2 at *
      generalize ftV a2 b2 p2 q2 = s1 at *
      generalize ftB a2 b2 p2 q2 = o2 at *
      have HS := Lib.hid (show (s1 + s2).tmod 3 = 0 by rw [Int.tmod_eq_emod_of_nonneg (by omega)]; exact hs)
      obtain ⟨s10, s11⟩ := i1
      obtain ⟨s20, s21⟩ := i2
      clear hs
      have g0 := int_ne_self s1
      have g1 := bool_ne_self o2
      have C10 := Lib.hid (newS 44 #[.int .i64 a2, .int .i64 b2] V9)
      have HB10a := Lib.hid (HB9.out.alloc HB9.out.size (.cells #[.int .i64 a2, .int .i64 b2] 44))
      clear HB9
      have D10 : Hid (AtS 44 #[.int .i64 p2, .int .i64 q2] V9 ((V9.alloc (.cells #[.int .i64 a2, .int .i64 b2] 44)).alloc (.cells #[.int .i64 p2, .int .i64 q2] 44)) (V9.heap.size + 1)) := Lib.hid (by have := (C10.out).next 44 #[.int .i64 p2, .int .i64 q2]; simpa only [World.size_alloc] using this)
      have C10xa := Lib.hid (C10.out.alloc (.cells #[.int .i64 p2, .int .i64 q2] 44))
      clear C10
      have HB10xa := Lib.hid (HB10a.out.alloc HB10a.out.size (.cells #[.int .i64 p2, .int .i64 q2] 44))
      clear HB10a
      go_wp2_with fail
      generalize ((V9.alloc (.cells #[.int .i64 a2, .int .i64 b2] 44)).alloc (.cells #[.int .i64 p2, .int .i64 q2] 44)) = V11 at *
      generalize V9.heap.size = b11 at *
      refine (F1.out V11).mono ?_
      rintro e V12 ⟨rfl, h12⟩
      have HB12 := Lib.hid (HB10xa.out.trans (h12.mono HB10xa.out.size))
      have C12 := Lib.hid (C10xa.out.old h12)
      have D12 := Lib.hid (D10.out.old h12)
      clear HB10xa C10xa D10 h12
      have c0_ : V12.cell? ⟨b11, 0, none⟩ = some (.int .i64 a2) := C12.out.cell 0
      have c1_ : V12.cell? ⟨b11, 1, none⟩ = some (.int .i64 b2) := C12.out.cell 1
      have clt_ := C12.out.2.2.1
      have d0_ : V12.cell? ⟨b11 + 1, 0, none⟩ = some (.int .i64 p2) := D12.out.cell 0
      have d1_ : V12.cell? ⟨b11 + 1, 1, none⟩ = some (.int .i64 q2) := D12.out.cell 1
      have dlt_ := D12.out.2.2.1
      go_wp2_with fail
      clear c0_ c1_ clt_ d0_ d1_ dlt_
      refine (F2.out V12).mono ?_
      rintro e V13 ⟨rfl, h13⟩
      have HB13 := Lib.hid (HB12.out.trans (h13.mono HB12.out.size))
      have C13 := Lib.hid (C12.out.old h13)
      have D13 := Lib.hid (D12.out.old h13)
      clear HB12 C12 D12 h13
      have c0_ : V13.cell? ⟨b11, 0, none⟩ = some (.int .i64 a2) := C13.out.cell 0
      have c1_ : V13.cell? ⟨b11, 1, none⟩ = some (.int .i64 b2) := C13.out.cell 1
      have clt_ := C13.out.2.2.1
      have d0_ : V13.cell? ⟨b11 + 1, 0, none⟩ = some (.int .i64 p2) := D13.out.cell 0
      have d1_ : V13.cell? ⟨b11 + 1, 1, none⟩ = some (.int .i64 q2) := D13.out.cell 1
      have dlt_ := D13.out.2.2.1
      go_wp2_with fail
      clear c0_ c1_ clt_ d0_ d1_ dlt_
      refine (FS.out V13).mono ?_
      rintro e V14 ⟨rfl, h14⟩
      have HB14 := Lib.hid (HB13.out.trans (h14.mono HB13.out.size))
      have C14 := Lib.hid (C13.out.old h14)
      have D14 := Lib.hid (D13.out.old h14)
      clear HB13 C13 D13 h14
      go_upto_region 15 with fail
      have BR15 := Lib.hid (Below.refl V14.heap.size V14)
      go_cut [138] from 116 to 137 (fun p150 wz => p150 = .bool false ∧ Below V14.heap.size V14 wz)
      case first =>
        have hs := HS.out
        generalize hz : s1 + s2 = z12 at *
        have y0 : 0 ≤ z12 := by omega
        have y1 : z12 ≤ 4 := by omega
        cases o2
        · go_wp2_with fail
          go_meet
          exact ⟨rfl, BR15.out⟩
        · go_wp2_with fail
          go_meet
          exact ⟨rfl, BR15.out⟩
      case rest =>
        obtain ⟨rfl, hg15⟩ := hcut
        have HB15c := Lib.hid (HB14.out.trans (hg15.mono HB14.out.size))
        have C15c := Lib.hid (C14.out.old hg15)
        have D15c := Lib.hid (D14.out.old hg15)
        clear HB14 C14 D14 hg15 BR15
        generalize wc = V16 at *
        clear F1 F2 FS HS g0 g1
        go_wp2_with fail
        refine (draww8.addVelocities A n c _ hn (Bytes_below H.out HB15c.out)).mono ?_
        rintro e V17 ⟨a3, b3, p3, q3, rfl, h17⟩
        have HB17 := Lib.hid (HB15c.out.trans (h17.mono HB15c.out.size))
        have C17 := Lib.hid (C15c.out.old h17)
        have D17 := Lib.hid (D15c.out.old h17)
        clear HB15c C15c D15c h17
        clear C17
        clear D17
        have A1 := Lib.hid (fun w => vell.addVelocities a3 b3 p3 q3 w)
        have a2' := fun w => vell.addVelocities p3 q3 a3 b3 w
        have AS := Lib.hid (fun w => velt.addVelocities a3 b3 p3 q3 w)
        rw [ad_turn, adX_turn, adY_turn] at a2'
        have A2 := Lib.hid a2'
        clear a2'
        generalize adX a3 b3 p3 q3 = x3 at *
        generalize adY a3 b3 p3 q3 = y3 at *
        generalize adB a3 b3 p3 q3 = o3 at *
        have g0 := int_eq_self x3
        have g1 := int_eq_self y3
        have g2 := bool_eq_self o3
        have E18 := Lib.hid (newS 44 #[.int .i64 a3, .int .i64 b3] V17)
        have HB18a := Lib.hid (HB17.out.alloc HB17.out.size (.cells #[.int .i64 a3, .int .i64 b3] 44))
        clear HB17
        have F18 : Hid (AtS 44 #[.int .i64 p3, .int .i64 q3] V17 ((V17.alloc (.cells #[.int .i64 a3, .int .i64 b3] 44)).alloc (.cells #[.int .i64 p3, .int .i64 q3] 44)) (V17.heap.size + 1)) := Lib.hid (by have := (E18.out).next 44 #[.int .i64 p3, .int .i64 q3]; simpa only [World.size_alloc] using this)
        have E18xa := Lib.hid (E18.out.alloc (.cells #[.int .i64 p3, .int .i64 q3] 44))
        clear E18
        have HB18xa := Lib.hid (HB18a.out.alloc HB18a.out.size (.cells #[.int .i64 p3, .int .i64 q3] 44))
        clear HB18a
        go_wp2_with fail
        generalize ((V17.alloc (.cells #[.int .i64 a3, .int .i64 b3] 44)).alloc (.cells #[.int .i64 p3, .int .i64 q3] 44)) = V19 at *
        generalize V17.heap.size = b19 at *
        refine (A1.out V19).mono ?_
        rintro e V20 ⟨rfl, h20⟩
        have HB20 := Lib.hid (HB18xa.out.trans (h20.mono HB18xa.out.size))
        have E20 := Lib.hid (E18xa.out.old h20)
        have F20 := Lib.hid (F18.out.old h20)
        clear HB18xa E18xa F18 h20
        have G21 := Lib.hid (newS 44 #[.int .i64 x3, .int .i64 y3] V20)
        have E21a := Lib.hid (E20.out.alloc (.cells #[.int .i64 x3, .int .i64 y3] 44))
        clear E20
        have F21a := Lib.hid (F20.out.alloc (.cells #[.int .i64 x3, .int .i64 y3] 44))
        clear F20
        have HB21a := Lib.hid (HB20.out.alloc HB20.out.size (.cells #[.int .i64 x3, .int .i64 y3] 44))
        clear HB20
        have e0_ : (V20.alloc (.cells #[.int .i64 x3, .int .i64 y3] 44)).cell? ⟨b19, 0, none⟩ = some (.int .i64 a3) := E21a.out.cell 0
        have e1_ : (V20.alloc (.cells #[.int .i64 x3, .int .i64 y3] 44)).cell? ⟨b19, 1, none⟩ = some (.int .i64 b3) := E21a.out.cell 1
        have elt_ := E21a.out.2.2.1
        have f0_ : (V20.alloc (.cells #[.int .i64 x3, .int .i64 y3] 44)).cell? ⟨b19 + 1, 0, none⟩ = some (.int .i64 p3) := F21a.out.cell 0
        have f1_ : (V20.alloc (.cells #[.int .i64 x3, .int .i64 y3] 44)).cell? ⟨b19 + 1, 1, none⟩ = some (.int .i64 q3) := F21a.out.cell 1
        have flt_ := F21a.out.2.2.1
        go_wp2_with fail
        clear e0_ e1_ elt_ f0_ f1_ flt_
        generalize (V20.alloc (.cells #[.int .i64 x3, .int .i64 y3] 44)) = V22 at *
        generalize V20.heap.size = b22 at *
        refine (A2.out V22).mono ?_
        rintro e V23 ⟨rfl, h23⟩
        have HB23 := Lib.hid (HB21a.out.trans (h23.mono HB21a.out.size))
        have E23 := Lib.hid (E21a.out.old h23)
        have F23 := Lib.hid (F21a.out.old h23)
        have G23 := Lib.hid (G21.out.old h23)
        clear HB21a E21a F21a G21 h23
        have I24 := Lib.hid (newS 44 #[.int .i64 x3, .int .i64 y3] V23)
        have E24a := Lib.hid (E23.out.alloc (.cells #[.int .i64 x3, .int .i64 y3] 44))
        clear E23
        have F24a := Lib.hid (F23.out.alloc (.cells #[.int .i64 x3, .int .i64 y3] 44))
        clear F23
        have G24a := Lib.hid (G23.out.alloc (.cells #[.int .i64 x3, .int .i64 y3] 44))
        clear G23
        have HB24a := Lib.hid (HB23.out.alloc HB23.out.size (.cells #[.int .i64 x3, .int .i64 y3] 44))
        clear HB23
        have e0_ : (V23.alloc (.cells #[.int .i64 x3, .int .i64 y3] 44)).cell? ⟨b19, 0, none⟩ = some (.int .i64 a3) := E24a.out.cell 0
        have e1_ : (V23.alloc (.cells #[.int .i64 x3, .int .i64 y3] 44)).cell? ⟨b19, 1, none⟩ = some (.int .i64 b3) := E24a.out.cell 1
        have elt_ := E24a.out.2.2.1
        have f0_ : (V23.alloc (.cells #[.int .i64 x3, .int .i64 y3] 44)).cell? ⟨b19 + 1, 0, none⟩ = some (.int .i64 p3) := F24a.out.cell 0
        have f1_ : (V23.alloc (.cells #[.int .i64 x3, .int .i64 y3] 44)).cell? ⟨b19 + 1, 1, none⟩ = some (.int .i64 q3) := F24a.out.cell 1
        have flt_ := F24a.out.2.2.1
        go_wp2_with fail
        clear e0_ e1_ elt_ f0_ f1_ flt_
        generalize (V23.alloc (.cells #[.int .i64 x3, .int .i64 y3] 44)) = V25 at *
        generalize V23.heap.size = b25 at *
        refine (AS.out V25).mono ?_
        rintro e V26 ⟨rfl, h26⟩
        have HB26 := Lib.hid (HB24a.out.trans (h26.mono HB24a.out.size))
        have E26 := Lib.hid (E24a.out.old h26)
        have F26 := Lib.hid (F24a.out.old h26)
        have G26 := Lib.hid (G24a.out.old h26)
        have I26 := Lib.hid (I24.out.old h26)
        clear HB24a E24a F24a G24a I24 h26
        have J27 := Lib.hid (newS 44 #[.int .i64 x3, .int .i64 y3] V26)
        have E27a := Lib.hid (E26.out.alloc (.cells #[.int .i64 x3, .int .i64 y3] 44))
        clear E26
        have F27a := Lib.hid (F26.out.alloc (.cells #[.int .i64 x3, .int .i64 y3] 44))
        clear F26
        have G27a := Lib.hid (G26.out.alloc (.cells #[.int .i64 x3, .int .i64 y3] 44))
        clear G26
        have I27a := Lib.hid (I26.out.alloc (.cells #[.int .i64 x3, .int .i64 y3] 44))
        clear I26
        have HB27a := Lib.hid (HB26.out.alloc HB26.out.size (.cells #[.int .i64 x3, .int .i64 y3] 44))
        clear HB26
        have g0_ : (V26.alloc (.cells #[.int .i64 x3, .int .i64 y3] 44)).cell? ⟨b22, 0, none⟩ = some (.int .i64 x3) := G27a.out.cell 0
        have g1_ : (V26.alloc (.cells #[.int .i64 x3, .int .i64 y3] 44)).cell? ⟨b22, 1, none⟩ = some (.int .i64 y3) := G27a.out.cell 1
        have glt_ := G27a.out.2.2.1
        have i0_ : (V26.alloc (.cells #[.int .i64 x3, .int .i64 y3] 44)).cell? ⟨b25, 0, none⟩ = some (.int .i64 x3) := I27a.out.cell 0
        have i1_ : (V26.alloc (.cells #[.int .i64 x3, .int .i64 y3] 44)).cell? ⟨b25, 1, none⟩ = some (.int .i64 y3) := I27a.out.cell 1
        have ilt_ := I27a.out.2.2.1
        go_wp2_with fail
        clear g0_ g1_ glt_ i0_ i1_ ilt_
        generalize (V26.alloc (.cells #[.int .i64 x3, .int .i64 y3] 44)) = V28 at *
        generalize V26.heap.size = b28 at *
        go_ret
        exact ⟨rfl, HB27a.out⟩

theorem own : ownKnob Try.prog.godebug = none := by kernel_rfl
theorem laidOut : laidOutB Try.prog = true := by kernel_rfl

set_option maxRecDepth 100000 in
theorem lifted (os : Os) (started : os.Started) (H : Type) (enc : TypeId × Value → H) :
    ReturnsInHanded {} Try.checked os 4 .any (Rows.fnTurnsSpec.pre6 enc Try.prog Try.f4 Rows.fnTurnsRow.domain false) (Rows.fnTurnsSpec.post enc Try.prog Try.f4 false true false false) := by
  refine returnsInHanded_of_change (C := Try.checked) own started (by kernel_rfl) Try.func4
    (ChangeSpec.witness6 (enc := enc) (C := Try.checked) false ⟨#[], #[.slice none 0 0], []⟩ 8 (by kernel_rfl) (by kernel_rfl) (by kernel_rfl) (by kernel_rfl)) ?_
  intro W base args ds gs before hval0 hW hcnd _
  have hval : ∀ (j : Nat) t v, Try.f4.params[j]? = some t → args[j]? = some v → Value.okWide Try.prog W .any base t v := hval0
  have hW' := hW
  obtain ⟨p, q, hA0, hV, rfl, hfz, hnd⟩ := hW
  have hA : DataW.TrodAll enc Try.prog W 0 (fun _ => true) true Try.f4.params.toList args.toList ds p := hA0
  rw [Try.params4] at hA hval
  obtain ⟨v0, vs0, d0, ds0, p0, q0, hargs, rfl, rfl, h0, r0⟩ := trodAll_cons hA
  obtain ⟨rfl, rfl, rfl⟩ := trodAll_nil r0
  obtain rfl : args = #[v0] := by cases args; simp_all
  obtain ⟨rfl, rfl⟩ := trodVars_none hV
  obtain ⟨a0, len0, cap0, rfl⟩ := okWide_slice Try.underlying22 (hval 0 22 v0 rfl rfl)
  have k0 := h0
  have lt0 : ∀ x ∈ p0, x.block < W.heap.size := by obtain ⟨m, hm⟩ := k0; exact DataW.trod_lt m _ _ _ hm
  obtain ⟨z0, w0⟩ : ∃ zs, IsRow .u8 W a0 len0 cap0 zs := by
    obtain ⟨fuel, hf⟩ := h0
    rcases open_ints Try.underlying22 Try.underlying5 (by kernel_rfl) hf with ⟨hcs, _⟩ | ⟨x, l, c, zs, hcs, _, hl, hm, hz, _, hcell, hwz⟩
    · simp [Value.cells] at hcs
      obtain ⟨rfl, rfl, rfl⟩ := hcs
      exact ⟨[], .inl ⟨rfl, rfl, rfl, rfl⟩⟩
    · simp [Value.cells] at hcs
      obtain ⟨rfl, rfl, rfl⟩ := hcs
      exact ⟨zs, .inr ⟨_, rfl, hl, hm, by simpa using hz, hcell, hwz⟩⟩
  clear hA0 hval0
  refine (walk a0 len0 cap0 z0 W w0).mono fun e W' ⟨he, bel⟩ => ?_
  subst he
  exact ⟨_, rfl, _, _, _, [], _, [], hW', trodAll_mk1 (shut_bool Try.underlying4 _), (trodAll_cons_mk (Below.trod laidOut (by kernel_rfl) (of_decide_eq_true (by kernel_rfl)) k0 bel lt0) trodAll_mk0), rfl, bel.frame _, fun h => by cases h⟩

theorem over : Rows.fnTurnsRow.holds Try.pinned (OpenSpec.ofChange Rows.fnTurnsSpec) :=
  OpenClaim.holds_of_wide 4 Try.f4 rfl rfl rfl rfl rfl rfl rfl ⟨rfl, rfl, rfl, rfl, rfl⟩ rfl rfl rfl rfl rfl (by kernel_rfl) Try.func4 (by kernel_rfl)
    (of_decide_eq_true (by kernel_rfl)) (by unfold Func.isWrapper; first | (rw [if_pos (by decide +kernel)]; kernel_rfl) | (rw [if_neg (by decide +kernel)]; exact ⟨rfl, rfl⟩))
    (fun os started H enc _ => lifted os started H enc)

theorem proved : Rows.FnTurnsSaid :=
  over
#print axioms proved
end Go.Proofs.Ytchhjjiidfacbaa.fnTurns
