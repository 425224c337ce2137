/- For every int, every slice of links and every link the law FnExactAddClockLink returns true: impl.AddClockLink and spec.AddClockLink return the same list with the link behind it and true, or both an empty slice and false; the arguments are left as they were, the results share no memory. No condition. -/
import Derived.Test.YtndogafihaooiaaRows
import Derived.Test.YtndogafihaooiaaLnkA
import Derived.Test.YtndogafihaooiaaLnkI
import Derived.Test.YtndogafihaooiaaLnkE
import Derived.Test.YtndogafihaooiaaIntC
import Derived.Test.YtndogafihaooiaaLstO
import Derived.Test.YtndogafihaooiaaClkE
import Derived.WalkKit
import Derived.ProofKit
import Derived.OpenShut
import Derived.ShutString
import Derived.ChangeOld
import Derived.Below
import Derived.Lib.SmallJoins
import Derived.Lib.QuietBelow
import Derived.Deep.RegionHeld3
import Derived.Deep.CutRange
namespace Go.Proofs.Ytndogafihaooiaa.fnExactAddClockLink
open Go.ChangeShapes Go.WideShapes Go.ChangeAt Go.RowKit Go.Joins Go.Proofs.Ytndogafihaooiaa.ats Go.Proofs.Ytndogafihaooiaa.ints Go.Proofs.Ytndogafihaooiaa.lst Go.Proofs.Ytndogafihaooiaa.intc Go.Proofs.Ytndogafihaooiaa.code_
open Go.ChangeMaps (open_string shut_string)
set_option linter.unusedVariables false

theorem bool_ne_self (b : Bool) : (b != b) = false := by simp
theorem int_ne_self (x : Int) : (x != x) = false := by simp

/-- The function f returns this. -/
def Gives (f : Nat) (z1 : List Int) (n1 : Nat) (a0 : Int) (a20 : Int) (a21 : Int) (a22 : Int) (V : List Int) (N : Nat) (O0 : Bool) : Prop := ∀ (A1 : Option Addr) (c1 : Nat) (w : World), n1 ≤ c1 → RdZ 3 w w.heap.size A1 n1 z1 → 
  Calls Try.prog f #[.int .i64 a0, .slice A1 n1 c1, .agg #[.int .i64 a20, .int .i64 a21, .int .i64 a22]] w fun e w' => ∃ v, e = .returned (.tuple #[v, .bool O0]) ∧ w'.ownsRow w.heap.size 50 3 v N (cellsI V) ∧ Below w.heap.size w w'

set_option maxRecDepth 100000 in
set_option maxHeartbeats 8000000 in
theorem law_of (a1 : Option Addr) (c1 : Nat) (z1 : List Int) (n1 : Nat) (a0 : Int) (a20 : Int) (a21 : Int) (a22 : Int) (V : List Int) (N : Nat) (O0 : Bool) (w : World) (hn1 : n1 ≤ 1048576) (hr1 : RdZ 3 w w.heap.size a1 n1 z1) (hN : N ≤ 1048576) (hV : V.length = N * 3)
    (hs : Gives 38 z1 n1 a0 a20 a21 a22 V N O0) (hi : Gives 36 z1 n1 a0 a20 a21 a22 V N O0) :
    Calls Try.prog 11 #[.int .i64 a0, .slice a1 n1 c1, .agg #[.int .i64 a20, .int .i64 a21, .int .i64 a22]] w fun e w' => e = .returned (.bool true) ∧ Below w.heap.size w w' := by
  have HZ1 := Lib.hid (fun w => lnke.sz a1 n1 c1 w (by unfold maxLen; omega))
  rw [if_pos hn1] at HZ1
  have d1 : decide ((1048576 : Int) - (n1 : Int) < 0) = false := decide_eq_false (by omega)
  have HC1 := Lib.hid (fun (w' : World) (hb : Below w.heap.size w w') => lnke.copyS z1 a1 n1 c1 w' hn1 (hr1.next hb))
  have HL1 := Lib.hid hr1.1
  have HS := Lib.hid (fun (A1 : Option Addr) (c1 : Nat) (w : World) (e1 : n1 ≤ c1) (h1 : RdZ 3 w w.heap.size A1 n1 z1) => hs A1 c1 w e1 h1)
  have HI := Lib.hid (fun (A1 : Option Addr) (c1 : Nat) (w : World) (e1 : n1 ≤ c1) (h1 : RdZ 3 w w.heap.size A1 n1 z1) => hi A1 c1 w e1 h1)
  have HV := Lib.hid hV
  have HNN := Lib.hid hN
  have ne0 := bool_ne_self O0
  clear hs hi hr1 hV
  have BX2 := Lib.hid (newS 68 #[.int .i64 a20, .int .i64 a21, .int .i64 a22] w)
  go_enter Try.func11, Try.ntmps11
  go_wp2_with fail
  generalize (w.alloc (.cells #[.int .i64 a20, .int .i64 a21, .int .i64 a22] 68)) = W0 at *
  have AN1 := Lib.hid (BX2.out.1)
  have AN2 := Lib.hid (Below.refl W0.heap.size W0)
  refine (HZ1.out W0).mono ?_
  rintro e w' ⟨rfl, rfl⟩
  go_upto_region 5 with fail
  have CS3 := Lib.hid (show ∀ WZ : World, Below W0.heap.size W0 WZ → WZ.cell? ⟨w.heap.size, 0, none⟩ = some (.int .i64 a20) ∧ WZ.cell? ⟨w.heap.size, 1, none⟩ = some (.int .i64 a21) ∧ WZ.cell? ⟨w.heap.size, 2, none⟩ = some (.int .i64 a22) from fun WZ hz => And.intro (clke.at_cell (BX2.out.old (AN2.out.trans (hz.mono AN2.out.size))) 0 (.int .i64 a20) rfl) (And.intro (clke.at_cell (BX2.out.old (AN2.out.trans (hz.mono AN2.out.size))) 1 (.int .i64 a21) rfl) (clke.at_cell (BX2.out.old (AN2.out.trans (hz.mono AN2.out.size))) 2 (.int .i64 a22) rfl)))
  have KC1_3 := Lib.hid (fun (WZ : World) (hz : Below W0.heap.size W0 WZ) => HC1.out WZ (AN1.out.trans (hz.mono AN1.out.size)))
  go_cut [8, 9] from 23 to 31 (fun p0 p1 wz => ∃ Ax cx, p0 = .slice Ax N cx ∧ p1 = .bool O0 ∧ wz.ownsRow W0.heap.size 50 3 (.slice Ax N cx) N (cellsI V) ∧ Below W0.heap.size W0 wz)
  case first =>
    go_region_held3 (fun w' => w'.cell? ⟨w.heap.size, 0, none⟩ = some (.int .i64 a20) ∧ w'.cell? ⟨w.heap.size, 1, none⟩ = some (.int .i64 a21) ∧ w'.cell? ⟨w.heap.size, 2, none⟩ = some (.int .i64 a22)) (first
      | exact CS3.out _ (Below.refl W0.heap.size W0).drew
      | exact CS3.out _ (by assumption)
      | go_keep) (first
      | (go_at_call 45; (with_reducible refine (KC1_3.out _ (by first | exact (Below.refl W0.heap.size W0).drew | assumption)).mono ?_); rintro e w1' ⟨g1, rfl, ho, hb⟩
         have hl1' := clke.bl_next (V := W0) (by first | exact (Below.refl W0.heap.size W0).drew | assumption) hb
         have r1_1 := RdZ.of_own ho HL1.out
         clear ho hb)
      | (go_at_call 51; (with_reducible refine (lnke.toClockLink a20 a21 a22 _).mono ?_); rintro e w2' ⟨rfl, hb⟩
         have hl2' := clke.bl_next (V := W0) (by first | exact (Below.refl W0.heap.size W0).drew | assumption) hb
         have r1_2 := r1_1.next hb
         clear hb)
      | (go_at_call 38; (with_reducible refine (HS.out _ _ _ (Nat.le_refl _) r1_2).mono ?_); rintro e wF' ⟨v, rfl, ho, hb⟩
         obtain ⟨Ax, cx, rfl⟩ := own_sliceZ ho
         have ho2 := own_.own_base ho (Below.size (by assumption : Below W0.heap.size W0 _))
         have hlF := clke.bl_next (V := W0) (by assumption) hb
         clear ho hb))
    all_goals (go_wp2_with fail; go_meet; exact ⟨_, _, rfl, rfl, by assumption, by assumption⟩)
  case rest =>
    obtain ⟨AW, cW, rfl, rfl, ho6, h5⟩ := hcut
    generalize wc = V4 at *
    clear CS3 KC1_3
    have AN7 := Lib.hid (AN1.out.trans (h5.mono AN1.out.size))
    clear AN1
    have AN8 := Lib.hid (AN2.out.trans (h5.mono AN2.out.size))
    clear AN2
    clear h5
    have RW := Lib.hid (RdZ.of_own ho6 HV.out)
    clear ho6
    have AN9 := Lib.hid (Below.refl V4.heap.size V4)
    go_wp2_with fail
    refine (HC1.out V4 AN7.out).mono ?_
    rintro e V10 ⟨g13, rfl, ho12, h11⟩
    have LE14 := Lib.hid AN7.out.size
    have LE15 := Lib.hid AN8.out.size
    have LE16 := Lib.hid AN9.out.size
    have AN17 := Lib.hid (AN7.out.trans (h11.mono AN7.out.size))
    clear AN7
    have AN18 := Lib.hid (AN8.out.trans (h11.mono AN8.out.size))
    clear AN8
    have AN19 := Lib.hid (AN9.out.trans (h11.mono AN9.out.size))
    clear AN9
    have rd20 := Lib.hid (RdZ.of_own ho12 HL1.out)
    have OW21 := Lib.hid ho12
    have LT22 := Lib.hid (own_row_lt ho12)
    have AN23 := Lib.hid (Below.refl V10.heap.size V10)
    clear h11 ho12
    have S24 := Lib.hid (BX2.out.old AN18.out)
    have c25 : V10.cell? ⟨w.heap.size, 0, none⟩ = some (.int .i64 a20) := S24.out.cell 0
    have c26 : V10.cell? ⟨w.heap.size, 1, none⟩ = some (.int .i64 a21) := S24.out.cell 1
    have c27 : V10.cell? ⟨w.heap.size, 2, none⟩ = some (.int .i64 a22) := S24.out.cell 2
    go_wp2_with fail
    clear c25 c26 c27 S24
    refine (lnke.toClockLink a20 a21 a22 V10).mono ?_
    rintro e V28 ⟨rfl, h29⟩
    have AN30 := Lib.hid (AN17.out.trans (h29.mono AN17.out.size))
    clear AN17
    have AN31 := Lib.hid (AN18.out.trans (h29.mono AN18.out.size))
    clear AN18
    have AN32 := Lib.hid (AN19.out.trans (h29.mono AN19.out.size))
    clear AN19
    have AN33 := Lib.hid (AN23.out.trans (h29.mono AN23.out.size))
    clear AN23
    have OW34 := Lib.hid (own_.own_below OW21.out h29)
    clear OW21
    clear h29
    have rd35 := Lib.hid (RdZ.of_own OW34.out HL1.out)
    have LE36 := Lib.hid AN30.out.size
    have LE37 := Lib.hid AN31.out.size
    have LE38 := Lib.hid AN32.out.size
    have LE39 := Lib.hid AN33.out.size
    go_wp2_with fail
    refine (HI.out _ _ V28 (Nat.le_refl _) rd35.out).mono ?_
    rintro e V40 ⟨vG, rfl, ho42, h41⟩
    obtain ⟨AG, cG, rfl⟩ := own_sliceZ ho42
    clear rd35
    have AN43 := Lib.hid (AN30.out.trans (h41.mono AN30.out.size))
    clear AN30
    have AN44 := Lib.hid (AN31.out.trans (h41.mono AN31.out.size))
    clear AN31
    have AN45 := Lib.hid (AN32.out.trans (h41.mono AN32.out.size))
    clear AN32
    have AN46 := Lib.hid (AN33.out.trans (h41.mono AN33.out.size))
    clear AN33
    have OW47 := Lib.hid (own_.own_below OW34.out h41)
    clear OW34
    clear h41
    clear AN46
    have OW48 := Lib.hid ho42
    have LT49 := Lib.hid (own_row_lt ho42)
    clear ho42
    have E50 := Lib.hid (lnke.eqS V AG AW N cG cW V40 (by have := HNN.out; omega) (RdZ.of_own OW48.out HV.out) (RW.out.next AN45.out))
    go_wp2_with fail
    refine E50.out.mono ?_
    rintro e V51 ⟨rfl, h52⟩
    clear E50
    have AN53 := Lib.hid (AN43.out.trans (h52.mono AN43.out.size))
    clear AN43
    have AN54 := Lib.hid (AN44.out.trans (h52.mono AN44.out.size))
    clear AN44
    have AN55 := Lib.hid (AN45.out.trans (h52.mono AN45.out.size))
    clear AN45
    have OW56 := Lib.hid (own_.own_below OW47.out h52)
    clear OW47
    have OW57 := Lib.hid (own_.own_below OW48.out h52)
    clear OW48
    clear h52
    go_wp2_with fail
    refine (HC1.out V51 AN53.out).mono ?_
    rintro e V58 ⟨g61, rfl, ho60, h59⟩
    have AN62 := Lib.hid (AN53.out.trans (h59.mono AN53.out.size))
    clear AN53
    have AN63 := Lib.hid (AN54.out.trans (h59.mono AN54.out.size))
    clear AN54
    have AN64 := Lib.hid (AN55.out.trans (h59.mono AN55.out.size))
    clear AN55
    have OW65 := Lib.hid (own_.own_below OW56.out h59)
    clear OW56
    have OW66 := Lib.hid (own_.own_below OW57.out h59)
    clear OW57
    have rd67 := Lib.hid (RdZ.of_own ho60 HL1.out)
    clear h59 ho60
    have E68 := Lib.hid (lnke.eqS z1 _ _ n1 n1 n1 V58 (by omega) (RdZ.of_own OW65.out HL1.out) rd67.out)
    clear rd67
    go_wp2_with fail
    refine E68.out.mono ?_
    rintro e V69 ⟨rfl, h70⟩
    clear E68
    have AN71 := Lib.hid (AN62.out.trans (h70.mono AN62.out.size))
    clear AN62
    have AN72 := Lib.hid (AN63.out.trans (h70.mono AN63.out.size))
    clear AN63
    have AN73 := Lib.hid (AN64.out.trans (h70.mono AN64.out.size))
    clear AN64
    have OW74 := Lib.hid (own_.own_below OW65.out h70)
    clear OW65
    have OW75 := Lib.hid (own_.own_below OW66.out h70)
    clear OW66
    clear h70
    go_wp2_with fail
    refine (lnke.markS V4.heap.size (some ⟨g13, 0, none⟩) 1 n1 n1 _ V69 (by have := HNN.out; omega) OW74.out).mono ?_
    rintro e V76 ⟨rfl, h77, hg78, ho79⟩
    have AN80 := Lib.hid (AN71.out.trans (h77.mono LE14.out))
    clear AN71
    have AN81 := Lib.hid (AN72.out.trans (h77.mono LE15.out))
    clear AN72
    have AN82 := Lib.hid (AN73.out.trans (h77.mono LE16.out))
    clear AN73
    have OW83 := Lib.hid (own_kept OW75.out hg78 (fun q hq => Nat.lt_of_lt_of_le (LT22.out q hq) LE39.out))
    clear OW75
    clear OW74 h77 hg78
    clear ho79
    have KN : decide (((1 + n1 * 3 : Nat) : Int) < 0) = false := decide_eq_false (by omega)
    generalize ((1 + n1 * 3 : Nat) : Int) = KK at *
    have E84 := Lib.hid (lnke.eqS V AG AW N cG cW V76 (by have := HNN.out; omega) (RdZ.of_own OW83.out HV.out) (RW.out.next AN82.out))
    go_wp2_with fail
    refine E84.out.mono ?_
    rintro e V85 ⟨rfl, h86⟩
    clear E84
    have AN87 := Lib.hid (AN80.out.trans (h86.mono AN80.out.size))
    clear AN80
    have AN88 := Lib.hid (AN81.out.trans (h86.mono AN81.out.size))
    clear AN81
    have AN89 := Lib.hid (AN82.out.trans (h86.mono AN82.out.size))
    clear AN82
    have OW90 := Lib.hid (own_.own_below OW83.out h86)
    clear OW83
    clear h86
    clear KN
    go_wp2_with fail
    refine (lnke.markS V28.heap.size AG 1 N cG _ V85 (by have := HNN.out; omega) OW90.out).mono ?_
    rintro e V91 ⟨rfl, h92, hg93, ho94⟩
    have AN95 := Lib.hid (AN87.out.trans (h92.mono LE36.out))
    clear AN87
    have AN96 := Lib.hid (AN88.out.trans (h92.mono LE37.out))
    clear AN88
    have AN97 := Lib.hid (AN89.out.trans (h92.mono LE38.out))
    clear AN89
    clear OW90 h92 hg93
    have MG := Lib.hid (RdZ.of_own ho94 (marksI_length 1 (N * 3)))
    clear ho94
    have AN98 := Lib.hid (Below.refl V91.heap.size V91)
    have K5 : decide (((1 + N * 3 : Nat) : Int) < 0) = false := decide_eq_false (by omega)
    have K6 : (((1 + N * 3 : Nat) : Int) != ((1 + N * 3 : Nat) : Int)) = false := int_ne_self _
    have HH := Lib.hid (fun (W : World) h => lnke.heldS AG 1 N cG W (by have := HNN.out; omega) (h))
    generalize ((1 + N * 3 : Nat) : Int) = K at *
    go_wp2_with fail
    refine (HH.out V91 (MG.out.next AN98.out)).mono ?_
    rintro e w' ⟨rfl, rfl⟩
    go_upto_region 24 with fail
    have CS99 := Lib.hid (show ∀ WZ : World, Below V91.heap.size V91 WZ → WZ.cell? ⟨w.heap.size, 0, none⟩ = some (.int .i64 a20) ∧ WZ.cell? ⟨w.heap.size, 1, none⟩ = some (.int .i64 a21) ∧ WZ.cell? ⟨w.heap.size, 2, none⟩ = some (.int .i64 a22) from fun WZ hz => And.intro (clke.at_cell (BX2.out.old (AN96.out.trans (hz.mono AN96.out.size))) 0 (.int .i64 a20) rfl) (And.intro (clke.at_cell (BX2.out.old (AN96.out.trans (hz.mono AN96.out.size))) 1 (.int .i64 a21) rfl) (clke.at_cell (BX2.out.old (AN96.out.trans (hz.mono AN96.out.size))) 2 (.int .i64 a22) rfl)))
    have KC1_99 := Lib.hid (fun (WZ : World) (hz : Below V91.heap.size V91 WZ) => HC1.out WZ (AN95.out.trans (hz.mono AN95.out.size)))
    go_cut [16, 17] from 83 to 91 (fun p0 p1 wz => ∃ Ax cx, p0 = .slice Ax N cx ∧ p1 = .bool O0 ∧ wz.ownsRow V91.heap.size 50 3 (.slice Ax N cx) N (cellsI V) ∧ Below V91.heap.size V91 wz)
    case first =>
      go_region_held3 (fun w' => w'.cell? ⟨w.heap.size, 0, none⟩ = some (.int .i64 a20) ∧ w'.cell? ⟨w.heap.size, 1, none⟩ = some (.int .i64 a21) ∧ w'.cell? ⟨w.heap.size, 2, none⟩ = some (.int .i64 a22)) (first
        | exact CS99.out _ (Below.refl V91.heap.size V91).drew
        | exact CS99.out _ (by assumption)
        | go_keep) (first
        | (go_at_call 45; (with_reducible refine (KC1_99.out _ (by first | exact (Below.refl V91.heap.size V91).drew | assumption)).mono ?_); rintro e w1' ⟨g1, rfl, ho, hb⟩
           have hl1' := clke.bl_next (V := V91) (by first | exact (Below.refl V91.heap.size V91).drew | assumption) hb
           have r1_1 := RdZ.of_own ho HL1.out
           clear ho hb)
        | (go_at_call 51; (with_reducible refine (lnke.toClockLink a20 a21 a22 _).mono ?_); rintro e w2' ⟨rfl, hb⟩
           have hl2' := clke.bl_next (V := V91) (by first | exact (Below.refl V91.heap.size V91).drew | assumption) hb
           have r1_2 := r1_1.next hb
           clear hb)
        | (go_at_call 36; (with_reducible refine (HI.out _ _ _ (Nat.le_refl _) r1_2).mono ?_); rintro e wF' ⟨v, rfl, ho, hb⟩
           obtain ⟨Ax, cx, rfl⟩ := own_sliceZ ho
           have ho2 := own_.own_base ho (Below.size (by assumption : Below V91.heap.size V91 _))
           have hlF := clke.bl_next (V := V91) (by assumption) hb
           clear ho hb))
      all_goals (go_wp2_with fail; go_meet; exact ⟨_, _, rfl, rfl, by assumption, by assumption⟩)
    case rest =>
      obtain ⟨AH, cH, rfl, rfl, ho102, h101⟩ := hcut
      generalize wc = V100 at *
      clear CS99 KC1_99
      have AN103 := Lib.hid (AN95.out.trans (h101.mono AN95.out.size))
      clear AN95
      have AN104 := Lib.hid (AN96.out.trans (h101.mono AN96.out.size))
      clear AN96
      have AN105 := Lib.hid (AN97.out.trans (h101.mono AN97.out.size))
      clear AN97
      have AN106 := Lib.hid (AN98.out.trans (h101.mono AN98.out.size))
      clear AN98
      clear h101
      have rd107 := RdZ.of_own ho102 HV.out
      have E108 := Lib.hid (lnke.eqS V AH AW N cH cW V100 (by have := HNN.out; omega) (rd107) (RW.out.next AN105.out))
      go_wp2_with fail
      refine E108.out.mono ?_
      rintro e V109 ⟨rfl, h110⟩
      clear E108
      have AN111 := Lib.hid (AN103.out.trans (h110.mono AN103.out.size))
      clear AN103
      have AN112 := Lib.hid (AN104.out.trans (h110.mono AN104.out.size))
      clear AN104
      have AN113 := Lib.hid (AN105.out.trans (h110.mono AN105.out.size))
      clear AN105
      have AN114 := Lib.hid (AN106.out.trans (h110.mono AN106.out.size))
      clear AN106
      clear h110
      go_wp2_with fail
      refine (HH.out V109 (MG.out.next AN114.out)).mono ?_
      rintro e w' ⟨rfl, rfl⟩
      go_wp2_with fail
      go_ret
      exact ⟨rfl, AN111.out⟩

set_option maxRecDepth 100000 in
theorem walk (a0 : Int) (a1 : Option Addr) (n1 c1 : Nat) (z1 : List Int) (a20 : Int) (a21 : Int) (a22 : Int) (w : World) (w0 : (Lit.int .i64 a0).wf = true) (w1 : RdZ 3 w w.heap.size a1 n1 z1) (l1 : n1 ≤ maxLen) (w20 : (Lit.int .i64 a20).wf = true) (w21 : (Lit.int .i64 a21).wf = true) (w22 : (Lit.int .i64 a22).wf = true) :
    Calls Try.prog 11 #[.int .i64 a0, .slice a1 n1 c1, .agg #[.int .i64 a20, .int .i64 a21, .int .i64 a22]] w fun e w' => e = .returned (.bool true) ∧ Below w.heap.size w w' := by
  by_cases hn1 : n1 ≤ 1048576
  · skip
    exact law_of a1 c1 z1 n1 a0 a20 a21 a22 (lnk.adV z1 a0 n1 a20 a21 a22) (lnk.adN z1 a0 n1 a20 a21 a22) (lnk.adB z1 a0 n1 a20 a21 a22) w hn1 w1 (Nat.le_trans (lnkx.adN_le _ _ _ _ _ _) (by omega)) (lnkx.ad_len _ _ _ _ _ _ w1.1)
      (fun A1 c1 w hc1 h1 => lnka.addClockLink a0 z1 a20 a21 a22 A1 n1 c1 w hn1 h1)
      (fun A1 c1 w hc1 h1 => lnki.addClockLink a0 z1 a20 a21 a22 A1 n1 c1 w hc1 hn1 h1)
  · have HZ1 := Lib.hid (fun w => lnke.sz a1 n1 c1 w l1)
    rw [if_neg hn1] at HZ1
    clear w0 w1 l1 w20 w21 w22 hn1
    go_enter Try.func11, Try.ntmps11
    go_wp2_with fail
    refine (HZ1.out _).mono ?_
    rintro e w' ⟨rfl, rfl⟩
    go_wp2_with fail
    go_ret
    exact ⟨rfl, (Below.refl _ _).alloc (Nat.le_refl _) _⟩


theorem own : ownKnob Try.prog.godebug = none := by kernel_rfl
theorem laidOut : laidOutB Try.prog = true := by kernel_rfl

set_option maxRecDepth 100000 in
theorem lifted (os : Os) (started : os.Started) (H : Type) (enc : TypeId × Value → H) :
    ReturnsInHanded {} Try.checked os 11 .any (Rows.fnExactAddClockLinkSpec.pre6 enc Try.prog Try.f11 Rows.fnExactAddClockLinkRow.domain false) (Rows.fnExactAddClockLinkSpec.post enc Try.prog Try.f11 false true false false) := by
  refine returnsInHanded_of_change (C := Try.checked) own started (by kernel_rfl) Try.func11
    (ChangeSpec.witness6 (enc := enc) (C := Try.checked) false ⟨#[], #[.int .i64 0, .slice none 0 0, .agg #[.int .i64 0, .int .i64 0, .int .i64 0]], []⟩ 8 (by kernel_rfl) (by kernel_rfl) (by kernel_rfl) (by kernel_rfl)) ?_
  intro W base args ds gs before hval0 hW hcnd _
  have hval : ∀ (j : Nat) t v, Try.f11.params[j]? = some t → args[j]? = some v → Value.okWide Try.prog W .any base t v := hval0
  have hW' := hW
  obtain ⟨p, q, hA0, hV, rfl, hfz, hnd⟩ := hW
  have hA : DataW.TrodAll enc Try.prog W 0 (fun _ => true) true Try.f11.params.toList args.toList ds p := hA0
  rw [Try.params11] at hA hval
  obtain ⟨v0, vs0, d0, ds0, p0, q0, hargs, rfl, rfl, h0, r0⟩ := trodAll_cons hA
  obtain ⟨v1, vs1, d1, ds1, p1, q1, rfl, rfl, rfl, h1, r1⟩ := trodAll_cons r0
  obtain ⟨v2, vs2, d2, ds2, p2, q2, rfl, rfl, rfl, h2, r2⟩ := trodAll_cons r1
  obtain ⟨rfl, rfl, rfl⟩ := trodAll_nil r2
  obtain rfl : args = #[v0, v1, v2] := by cases args; simp_all
  obtain ⟨rfl, rfl⟩ := trodVars_none hV
  obtain ⟨a0, rfl, rfl, rfl, w0⟩ := open_int Try.underlying3 (hval 0 3 v0 rfl rfl) h0
  obtain ⟨a1, len1, cap1, rfl⟩ := okWide_slice Try.underlying62 (hval 1 62 v1 rfl rfl)
  have k1 := h1
  have lt1 : ∀ x ∈ p1, x.block < W.heap.size := by obtain ⟨m, hm⟩ := k1; exact DataW.trod_lt m _ _ _ hm
  obtain ⟨z1, w1, n1⟩ : ∃ zs, lst.RdZ 3 W W.heap.size a1 len1 zs ∧ len1 ≤ maxLen := by
    obtain ⟨fuel, hf⟩ := h1
    obtain ⟨A, n, c, zs, hcs, hrd, hle⟩ := lsto.open_structs Try.underlying62 Try.underlying68 (by kernel_rfl) (by kernel_rfl) (by decide) (by
        intro j f hg
        match j, hg with
        | 0, hg => exact (Option.some.inj hg) ▸ Try.underlying3
        | 1, hg => exact (Option.some.inj hg) ▸ Try.underlying3
        | 2, hg => exact (Option.some.inj hg) ▸ Try.underlying3
        | q + 3, hg => exact absurd (Array.getElem?_eq_some_iff.1 hg).1 (by simp)) hf
    simp [Value.cells] at hcs
    obtain ⟨rfl, rfl, rfl⟩ := hcs
    exact ⟨zs, hrd, hle⟩
  have k2 := h2
  have lt2 : ∀ x ∈ p2, x.block < W.heap.size := by obtain ⟨m, hm⟩ := k2; exact DataW.trod_lt m _ _ _ hm
  obtain ⟨f20, f21, f22, y20, y21, y22, m2, rfl, rfl, rfl, t20, t21, t22⟩ := open_agg3 Try.underlying68 (by kernel_rfl) (by kernel_rfl) (hval 2 68 v2 rfl rfl) h2
  obtain ⟨a20, e20, -, w20⟩ := DataW.trod_int Try.underlying3 t20
  obtain rfl : f20 = .int .i64 a20 := by simpa using e20
  obtain ⟨a21, e21, -, w21⟩ := DataW.trod_int Try.underlying3 t21
  obtain rfl : f21 = .int .i64 a21 := by simpa using e21
  obtain ⟨a22, e22, -, w22⟩ := DataW.trod_int Try.underlying3 t22
  obtain rfl : f22 = .int .i64 a22 := by simpa using e22
  clear hA0 hval0
  refine (walk a0 a1 len1 cap1 z1 a20 a21 a22 W w0 w1 n1 w20 w21 w22).mono fun e W' ⟨he, bel⟩ => ?_
  subst he
  exact ⟨_, rfl, _, _, _, [], _, [], hW', trodAll_mk1 (shut_bool Try.underlying4 _), (trodAll_cons_mk (shut_int Try.underlying3 w0) (trodAll_cons_mk (Below.trod laidOut (by kernel_rfl) (of_decide_eq_true (by kernel_rfl)) k1 bel lt1) (trodAll_cons_mk (Below.trod laidOut (by kernel_rfl) (of_decide_eq_true (by kernel_rfl)) k2 bel lt2) trodAll_mk0))), rfl, bel.frame _, fun h => by cases h⟩

theorem over : Rows.fnExactAddClockLinkRow.holds Try.pinned (OpenSpec.ofChange Rows.fnExactAddClockLinkSpec) :=
  OpenClaim.holds_of_wide 11 Try.f11 rfl rfl rfl rfl rfl rfl rfl ⟨rfl, rfl, rfl, rfl, rfl⟩ rfl rfl rfl rfl rfl (by kernel_rfl) Try.func11 (by kernel_rfl)
    (of_decide_eq_true (by kernel_rfl)) (by unfold Func.isWrapper; first | (rw [if_pos (by decide +kernel)]; kernel_rfl) | (rw [if_neg (by decide +kernel)]; exact ⟨rfl, rfl⟩))
    (fun os started H enc _ => lifted os started H enc)

theorem proved : Rows.FnExactAddClockLinkSaid :=
  over
#print axioms proved
end Go.Proofs.Ytndogafihaooiaa.fnExactAddClockLink
