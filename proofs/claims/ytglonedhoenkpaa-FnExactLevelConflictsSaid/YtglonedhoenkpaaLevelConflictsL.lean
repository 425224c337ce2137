/- For every slice of Cleareds and all other arguments the law FnExactLevelConflicts returns true: impl.LevelConflicts and spec.LevelConflicts return the same Addresses and true, or both an empty slice and false; the arguments are left as they were, the results share no memory. No condition. -/
import Derived.Test.YtglonedhoenkpaaRows
import Derived.Test.YtglonedhoenkpaaLvlU
import Derived.Test.YtglonedhoenkpaaLvlD
import Derived.Test.YtglonedhoenkpaaOpn
import Derived.Test.YtglonedhoenkpaaIntC
import Derived.Test.YtglonedhoenkpaaLstO
import Derived.Test.YtglonedhoenkpaaLvlE
import Derived.WalkKit
import Derived.ProofKit
import Derived.OpenShut
import Derived.ShutString
import Derived.ChangeOld
import Derived.Below
import Derived.Lib.SmallJoins
import Derived.Lib.QuietBelow
import Derived.Deep.RegionHeld3
import Derived.Deep.CutRange
namespace Go.Proofs.Ytglonedhoenkpaa.fnExactLevelConflicts
open Go.ChangeShapes Go.WideShapes Go.ChangeAt Go.RowKit Go.Joins Go.Proofs.Ytglonedhoenkpaa.ats Go.Proofs.Ytglonedhoenkpaa.ints Go.Proofs.Ytglonedhoenkpaa.lst Go.Proofs.Ytglonedhoenkpaa.intc Go.Proofs.Ytglonedhoenkpaa.code_
open Go.ChangeMaps (open_string shut_string)
set_option linter.unusedVariables false

theorem bool_ne_self (b : Bool) : (b != b) = false := by simp
theorem int_ne_self (x : Int) : (x != x) = false := by simp

/-- The function f returns this. -/
def Gives (f : Nat) (z0 : List Int) (n0 : Nat) (a10 : Int) (a11 : Int) (a12 : Int) (a13 : Int) (a14 : Int) (V : List Int) (N : Nat) (O0 : Bool) : Prop := ∀ (A0 : Option Addr) (c0 : Nat) (w : World), n0 ≤ c0 → RdZ 5 w w.heap.size A0 n0 z0 → 
  Calls Try.prog f #[.slice A0 n0 c0, .agg #[.int .i64 a10, .int .i64 a11, .int .i64 a12, .int .i64 a13, .int .i64 a14]] w fun e w' => ∃ v, e = .returned (.tuple #[v, .bool O0]) ∧ w'.ownsRow w.heap.size 3 1 v N (cellsI V) ∧ Below w.heap.size w w'

set_option maxRecDepth 100000 in
set_option maxHeartbeats 8000000 in
theorem law_of (a0 : Option Addr) (c0 : Nat) (z0 : List Int) (n0 : Nat) (a10 : Int) (a11 : Int) (a12 : Int) (a13 : Int) (a14 : Int) (V : List Int) (N : Nat) (O0 : Bool) (w : World) (hn0 : n0 ≤ 1048576) (hr0 : RdZ 5 w w.heap.size a0 n0 z0) (hN : N ≤ 1048576) (hV : V.length = N)
    (hs : Gives 20 z0 n0 a10 a11 a12 a13 a14 V N O0) (hi : Gives 19 z0 n0 a10 a11 a12 a13 a14 V N O0) :
    Calls Try.prog 9 #[.slice a0 n0 c0, .agg #[.int .i64 a10, .int .i64 a11, .int .i64 a12, .int .i64 a13, .int .i64 a14]] w fun e w' => e = .returned (.bool true) ∧ Below w.heap.size w w' := by
  have HZ0 := Lib.hid (fun w => lvle.sz a0 n0 c0 w (by unfold maxLen; omega))
  rw [if_pos hn0] at HZ0
  have d0 : decide ((1048576 : Int) - (n0 : Int) < 0) = false := decide_eq_false (by omega)
  have HC0 := Lib.hid (fun (w' : World) (hb : Below w.heap.size w w') => lvle.copyS z0 a0 n0 c0 w' hn0 (hr0.next hb))
  have HL0 := Lib.hid hr0.1
  have HS := Lib.hid (fun (A0 : Option Addr) (c0 : Nat) (w : World) (e0 : n0 ≤ c0) (h0 : RdZ 5 w w.heap.size A0 n0 z0) => hs A0 c0 w e0 h0)
  have HI := Lib.hid (fun (A0 : Option Addr) (c0 : Nat) (w : World) (e0 : n0 ≤ c0) (h0 : RdZ 5 w w.heap.size A0 n0 z0) => hi A0 c0 w e0 h0)
  have HV := Lib.hid hV
  have HNN := Lib.hid hN
  have ne0 := bool_ne_self O0
  clear hs hi hr0 hV
  have BX1 := Lib.hid (newS 67 #[.int .i64 a10, .int .i64 a11, .int .i64 a12, .int .i64 a13, .int .i64 a14] w)
  go_enter Try.func9, Try.ntmps9
  go_wp2_with fail
  generalize (w.alloc (.cells #[.int .i64 a10, .int .i64 a11, .int .i64 a12, .int .i64 a13, .int .i64 a14] 67)) = W0 at *
  have AN1 := Lib.hid (BX1.out.1)
  have AN2 := Lib.hid (Below.refl W0.heap.size W0)
  refine (HZ0.out W0).mono ?_
  rintro e w' ⟨rfl, rfl⟩
  go_upto_region 5 with fail
  have CS3 := Lib.hid (show ∀ WZ : World, Below W0.heap.size W0 WZ → WZ.cell? ⟨w.heap.size, 0, none⟩ = some (.int .i64 a10) ∧ WZ.cell? ⟨w.heap.size, 1, none⟩ = some (.int .i64 a11) ∧ WZ.cell? ⟨w.heap.size, 2, none⟩ = some (.int .i64 a12) ∧ WZ.cell? ⟨w.heap.size, 3, none⟩ = some (.int .i64 a13) ∧ WZ.cell? ⟨w.heap.size, 4, none⟩ = some (.int .i64 a14) from fun WZ hz => And.intro (lvle.at_cell (BX1.out.old (AN2.out.trans (hz.mono AN2.out.size))) 0 (.int .i64 a10) rfl) (And.intro (lvle.at_cell (BX1.out.old (AN2.out.trans (hz.mono AN2.out.size))) 1 (.int .i64 a11) rfl) (And.intro (lvle.at_cell (BX1.out.old (AN2.out.trans (hz.mono AN2.out.size))) 2 (.int .i64 a12) rfl) (And.intro (lvle.at_cell (BX1.out.old (AN2.out.trans (hz.mono AN2.out.size))) 3 (.int .i64 a13) rfl) (lvle.at_cell (BX1.out.old (AN2.out.trans (hz.mono AN2.out.size))) 4 (.int .i64 a14) rfl)))))
  have KC0_3 := Lib.hid (fun (WZ : World) (hz : Below W0.heap.size W0 WZ) => HC0.out WZ (AN1.out.trans (hz.mono AN1.out.size)))
  go_cut [6, 7] from 21 to 28 (fun p0 p1 wz => ∃ Ax cx, p0 = .slice Ax N cx ∧ p1 = .bool O0 ∧ wz.ownsRow W0.heap.size 3 1 (.slice Ax N cx) N (cellsI V) ∧ Below W0.heap.size W0 wz)
  case first =>
    go_region_held3 (fun w' => w'.cell? ⟨w.heap.size, 0, none⟩ = some (.int .i64 a10) ∧ w'.cell? ⟨w.heap.size, 1, none⟩ = some (.int .i64 a11) ∧ w'.cell? ⟨w.heap.size, 2, none⟩ = some (.int .i64 a12) ∧ w'.cell? ⟨w.heap.size, 3, none⟩ = some (.int .i64 a13) ∧ w'.cell? ⟨w.heap.size, 4, none⟩ = some (.int .i64 a14)) (first
      | exact CS3.out _ (Below.refl W0.heap.size W0).drew
      | exact CS3.out _ (by assumption)
      | go_keep) (first
      | (go_at_call 45; (with_reducible refine (KC0_3.out _ (by first | exact (Below.refl W0.heap.size W0).drew | assumption)).mono ?_); rintro e w0' ⟨g0, rfl, ho, hb⟩
         have hl0' := lvle.bl_next (V := W0) (by first | exact (Below.refl W0.heap.size W0).drew | assumption) hb
         have r0_0 := RdZ.of_own ho HL0.out
         clear ho hb)
      | (go_at_call 47; (with_reducible refine (lvle.toCleared a10 a11 a12 a13 a14 _).mono ?_); rintro e w1' ⟨rfl, hb⟩
         have hl1' := lvle.bl_next (V := W0) (by first | exact (Below.refl W0.heap.size W0).drew | assumption) hb
         have r0_1 := r0_0.next hb
         clear hb)
      | (go_at_call 20; (with_reducible refine (HS.out _ _ _ (Nat.le_refl _) r0_1).mono ?_); rintro e wF' ⟨v, rfl, ho, hb⟩
         obtain ⟨Ax, cx, rfl⟩ := own_sliceZ ho
         have ho2 := own_.own_base ho (Below.size (by assumption : Below W0.heap.size W0 _))
         have hlF := lvle.bl_next (V := W0) (by assumption) hb
         clear ho hb))
    all_goals (go_wp2_with fail; go_meet; exact ⟨_, _, rfl, rfl, by assumption, by assumption⟩)
  case rest =>
    obtain ⟨AW, cW, rfl, rfl, ho6, h5⟩ := hcut
    generalize wc = V4 at *
    clear CS3 KC0_3
    have AN7 := Lib.hid (AN1.out.trans (h5.mono AN1.out.size))
    clear AN1
    have AN8 := Lib.hid (AN2.out.trans (h5.mono AN2.out.size))
    clear AN2
    clear h5
    have RW := Lib.hid (intc.rd_of_own ho6 HV.out)
    clear ho6
    have AN9 := Lib.hid (Below.refl V4.heap.size V4)
    go_wp2_with fail
    refine (HC0.out V4 AN7.out).mono ?_
    rintro e V10 ⟨g13, rfl, ho12, h11⟩
    have LE14 := Lib.hid AN7.out.size
    have LE15 := Lib.hid AN8.out.size
    have LE16 := Lib.hid AN9.out.size
    have AN17 := Lib.hid (AN7.out.trans (h11.mono AN7.out.size))
    clear AN7
    have AN18 := Lib.hid (AN8.out.trans (h11.mono AN8.out.size))
    clear AN8
    have AN19 := Lib.hid (AN9.out.trans (h11.mono AN9.out.size))
    clear AN9
    have rd20 := Lib.hid (RdZ.of_own ho12 HL0.out)
    have OW21 := Lib.hid ho12
    have LT22 := Lib.hid (own_row_lt ho12)
    have AN23 := Lib.hid (Below.refl V10.heap.size V10)
    clear h11 ho12
    have S24 := Lib.hid (BX1.out.old AN18.out)
    have c25 : V10.cell? ⟨w.heap.size, 0, none⟩ = some (.int .i64 a10) := S24.out.cell 0
    have c26 : V10.cell? ⟨w.heap.size, 1, none⟩ = some (.int .i64 a11) := S24.out.cell 1
    have c27 : V10.cell? ⟨w.heap.size, 2, none⟩ = some (.int .i64 a12) := S24.out.cell 2
    have c28 : V10.cell? ⟨w.heap.size, 3, none⟩ = some (.int .i64 a13) := S24.out.cell 3
    have c29 : V10.cell? ⟨w.heap.size, 4, none⟩ = some (.int .i64 a14) := S24.out.cell 4
    go_wp2_with fail
    clear c25 c26 c27 c28 c29 S24
    refine (lvle.toCleared a10 a11 a12 a13 a14 V10).mono ?_
    rintro e V30 ⟨rfl, h31⟩
    have AN32 := Lib.hid (AN17.out.trans (h31.mono AN17.out.size))
    clear AN17
    have AN33 := Lib.hid (AN18.out.trans (h31.mono AN18.out.size))
    clear AN18
    have AN34 := Lib.hid (AN19.out.trans (h31.mono AN19.out.size))
    clear AN19
    have AN35 := Lib.hid (AN23.out.trans (h31.mono AN23.out.size))
    clear AN23
    have OW36 := Lib.hid (own_.own_below OW21.out h31)
    clear OW21
    clear h31
    have rd37 := Lib.hid (RdZ.of_own OW36.out HL0.out)
    have LE38 := Lib.hid AN32.out.size
    have LE39 := Lib.hid AN33.out.size
    have LE40 := Lib.hid AN34.out.size
    have LE41 := Lib.hid AN35.out.size
    go_wp2_with fail
    refine (HI.out _ _ V30 (Nat.le_refl _) rd37.out).mono ?_
    rintro e V42 ⟨vG, rfl, ho44, h43⟩
    obtain ⟨AG, cG, rfl⟩ := own_sliceZ ho44
    clear rd37
    have AN45 := Lib.hid (AN32.out.trans (h43.mono AN32.out.size))
    clear AN32
    have AN46 := Lib.hid (AN33.out.trans (h43.mono AN33.out.size))
    clear AN33
    have AN47 := Lib.hid (AN34.out.trans (h43.mono AN34.out.size))
    clear AN34
    have AN48 := Lib.hid (AN35.out.trans (h43.mono AN35.out.size))
    clear AN35
    have OW49 := Lib.hid (own_.own_below OW36.out h43)
    clear OW36
    clear h43
    clear AN48
    have OW50 := Lib.hid ho44
    have LT51 := Lib.hid (own_row_lt ho44)
    clear ho44
    have E52 := Lib.hid (ints.eq_same V AG AW N cG cW V42 (by have := HNN.out; omega) (intc.rd_of_own OW50.out HV.out) (RW.out.next AN47.out))
    go_wp2_with fail
    refine E52.out.mono ?_
    rintro e wx ⟨rfl, j53, rfl⟩
    clear E52
    have AN55 := Lib.hid (aid.below_drewN AN45.out j53)
    clear AN45
    have AN56 := Lib.hid (aid.below_drewN AN46.out j53)
    clear AN46
    have AN57 := Lib.hid (aid.below_drewN AN47.out j53)
    clear AN47
    have OW58 := Lib.hid (own_.own_drewN OW49.out j53)
    clear OW49
    have OW59 := Lib.hid (own_.own_drewN OW50.out j53)
    clear OW50
    generalize V42.drewN j53 = V54 at *
    go_wp2_with fail
    refine (HC0.out V54 AN55.out).mono ?_
    rintro e V60 ⟨g63, rfl, ho62, h61⟩
    have AN64 := Lib.hid (AN55.out.trans (h61.mono AN55.out.size))
    clear AN55
    have AN65 := Lib.hid (AN56.out.trans (h61.mono AN56.out.size))
    clear AN56
    have AN66 := Lib.hid (AN57.out.trans (h61.mono AN57.out.size))
    clear AN57
    have OW67 := Lib.hid (own_.own_below OW58.out h61)
    clear OW58
    have OW68 := Lib.hid (own_.own_below OW59.out h61)
    clear OW59
    have rd69 := Lib.hid (RdZ.of_own ho62 HL0.out)
    clear h61 ho62
    have E70 := Lib.hid (lvle.eqS z0 _ _ n0 n0 n0 V60 (by omega) (RdZ.of_own OW67.out HL0.out) rd69.out)
    clear rd69
    go_wp2_with fail
    refine E70.out.mono ?_
    rintro e V71 ⟨rfl, h72⟩
    clear E70
    have AN73 := Lib.hid (AN64.out.trans (h72.mono AN64.out.size))
    clear AN64
    have AN74 := Lib.hid (AN65.out.trans (h72.mono AN65.out.size))
    clear AN65
    have AN75 := Lib.hid (AN66.out.trans (h72.mono AN66.out.size))
    clear AN66
    have OW76 := Lib.hid (own_.own_below OW67.out h72)
    clear OW67
    have OW77 := Lib.hid (own_.own_below OW68.out h72)
    clear OW68
    clear h72
    go_wp2_with fail
    refine (lvle.markS V4.heap.size (some ⟨g13, 0, none⟩) 1 n0 n0 _ V71 (by have := HNN.out; omega) OW76.out).mono ?_
    rintro e V78 ⟨rfl, h79, hg80, ho81⟩
    have AN82 := Lib.hid (AN73.out.trans (h79.mono LE14.out))
    clear AN73
    have AN83 := Lib.hid (AN74.out.trans (h79.mono LE15.out))
    clear AN74
    have AN84 := Lib.hid (AN75.out.trans (h79.mono LE16.out))
    clear AN75
    have OW85 := Lib.hid (own_kept OW77.out hg80 (fun q hq => Nat.lt_of_lt_of_le (LT22.out q hq) LE41.out))
    clear OW77
    clear OW76 h79 hg80
    clear ho81
    have KN : decide (((1 + n0 * 5 : Nat) : Int) < 0) = false := decide_eq_false (by omega)
    generalize ((1 + n0 * 5 : Nat) : Int) = KK at *
    have E86 := Lib.hid (ints.eq_same V AG AW N cG cW V78 (by have := HNN.out; omega) (intc.rd_of_own OW85.out HV.out) (RW.out.next AN84.out))
    go_wp2_with fail
    refine E86.out.mono ?_
    rintro e wx ⟨rfl, j87, rfl⟩
    clear E86
    have AN89 := Lib.hid (aid.below_drewN AN82.out j87)
    clear AN82
    have AN90 := Lib.hid (aid.below_drewN AN83.out j87)
    clear AN83
    have AN91 := Lib.hid (aid.below_drewN AN84.out j87)
    clear AN84
    have OW92 := Lib.hid (own_.own_drewN OW85.out j87)
    clear OW85
    generalize V78.drewN j87 = V88 at *
    clear KN
    go_wp2_with fail
    refine (intc.markI V30.heap.size AG 1 N cG _ V88 (by have := HNN.out; omega) OW92.out).mono ?_
    rintro e V93 ⟨rfl, h94, hg95, ho96⟩
    have AN97 := Lib.hid (AN89.out.trans (h94.mono LE38.out))
    clear AN89
    have AN98 := Lib.hid (AN90.out.trans (h94.mono LE39.out))
    clear AN90
    have AN99 := Lib.hid (AN91.out.trans (h94.mono LE40.out))
    clear AN91
    clear OW92 h94 hg95
    have MG := Lib.hid (intc.rd_of_own ho96 (marksI_length 1 N))
    clear ho96
    have AN100 := Lib.hid (Below.refl V93.heap.size V93)
    have K5 : decide (((1 + N : Nat) : Int) < 0) = false := decide_eq_false (by omega)
    have K6 : (((1 + N : Nat) : Int) != ((1 + N : Nat) : Int)) = false := int_ne_self _
    have HH := Lib.hid (fun (W : World) h => ints.held AG 1 N cG W (by have := HNN.out; omega) (h))
    generalize ((1 + N : Nat) : Int) = K at *
    go_wp2_with fail
    refine (HH.out V93 (MG.out.next AN100.out)).mono ?_
    rintro e w' ⟨rfl, rfl⟩
    go_upto_region 24 with fail
    have CS101 := Lib.hid (show ∀ WZ : World, Below V93.heap.size V93 WZ → WZ.cell? ⟨w.heap.size, 0, none⟩ = some (.int .i64 a10) ∧ WZ.cell? ⟨w.heap.size, 1, none⟩ = some (.int .i64 a11) ∧ WZ.cell? ⟨w.heap.size, 2, none⟩ = some (.int .i64 a12) ∧ WZ.cell? ⟨w.heap.size, 3, none⟩ = some (.int .i64 a13) ∧ WZ.cell? ⟨w.heap.size, 4, none⟩ = some (.int .i64 a14) from fun WZ hz => And.intro (lvle.at_cell (BX1.out.old (AN98.out.trans (hz.mono AN98.out.size))) 0 (.int .i64 a10) rfl) (And.intro (lvle.at_cell (BX1.out.old (AN98.out.trans (hz.mono AN98.out.size))) 1 (.int .i64 a11) rfl) (And.intro (lvle.at_cell (BX1.out.old (AN98.out.trans (hz.mono AN98.out.size))) 2 (.int .i64 a12) rfl) (And.intro (lvle.at_cell (BX1.out.old (AN98.out.trans (hz.mono AN98.out.size))) 3 (.int .i64 a13) rfl) (lvle.at_cell (BX1.out.old (AN98.out.trans (hz.mono AN98.out.size))) 4 (.int .i64 a14) rfl)))))
    have KC0_101 := Lib.hid (fun (WZ : World) (hz : Below V93.heap.size V93 WZ) => HC0.out WZ (AN97.out.trans (hz.mono AN97.out.size)))
    go_cut [14, 15] from 79 to 86 (fun p0 p1 wz => ∃ Ax cx, p0 = .slice Ax N cx ∧ p1 = .bool O0 ∧ wz.ownsRow V93.heap.size 3 1 (.slice Ax N cx) N (cellsI V) ∧ Below V93.heap.size V93 wz)
    case first =>
      go_region_held3 (fun w' => w'.cell? ⟨w.heap.size, 0, none⟩ = some (.int .i64 a10) ∧ w'.cell? ⟨w.heap.size, 1, none⟩ = some (.int .i64 a11) ∧ w'.cell? ⟨w.heap.size, 2, none⟩ = some (.int .i64 a12) ∧ w'.cell? ⟨w.heap.size, 3, none⟩ = some (.int .i64 a13) ∧ w'.cell? ⟨w.heap.size, 4, none⟩ = some (.int .i64 a14)) (first
        | exact CS101.out _ (Below.refl V93.heap.size V93).drew
        | exact CS101.out _ (by assumption)
        | go_keep) (first
        | (go_at_call 45; (with_reducible refine (KC0_101.out _ (by first | exact (Below.refl V93.heap.size V93).drew | assumption)).mono ?_); rintro e w0' ⟨g0, rfl, ho, hb⟩
           have hl0' := lvle.bl_next (V := V93) (by first | exact (Below.refl V93.heap.size V93).drew | assumption) hb
           have r0_0 := RdZ.of_own ho HL0.out
           clear ho hb)
        | (go_at_call 47; (with_reducible refine (lvle.toCleared a10 a11 a12 a13 a14 _).mono ?_); rintro e w1' ⟨rfl, hb⟩
           have hl1' := lvle.bl_next (V := V93) (by first | exact (Below.refl V93.heap.size V93).drew | assumption) hb
           have r0_1 := r0_0.next hb
           clear hb)
        | (go_at_call 19; (with_reducible refine (HI.out _ _ _ (Nat.le_refl _) r0_1).mono ?_); rintro e wF' ⟨v, rfl, ho, hb⟩
           obtain ⟨Ax, cx, rfl⟩ := own_sliceZ ho
           have ho2 := own_.own_base ho (Below.size (by assumption : Below V93.heap.size V93 _))
           have hlF := lvle.bl_next (V := V93) (by assumption) hb
           clear ho hb))
      all_goals (go_wp2_with fail; go_meet; exact ⟨_, _, rfl, rfl, by assumption, by assumption⟩)
    case rest =>
      obtain ⟨AH, cH, rfl, rfl, ho104, h103⟩ := hcut
      generalize wc = V102 at *
      clear CS101 KC0_101
      have AN105 := Lib.hid (AN97.out.trans (h103.mono AN97.out.size))
      clear AN97
      have AN106 := Lib.hid (AN98.out.trans (h103.mono AN98.out.size))
      clear AN98
      have AN107 := Lib.hid (AN99.out.trans (h103.mono AN99.out.size))
      clear AN99
      have AN108 := Lib.hid (AN100.out.trans (h103.mono AN100.out.size))
      clear AN100
      clear h103
      have rd109 := intc.rd_of_own ho104 HV.out
      have E110 := Lib.hid (ints.eq_same V AH AW N cH cW V102 (by have := HNN.out; omega) (rd109) (RW.out.next AN107.out))
      go_wp2_with fail
      refine E110.out.mono ?_
      rintro e wx ⟨rfl, j111, rfl⟩
      clear E110
      have AN113 := Lib.hid (aid.below_drewN AN105.out j111)
      clear AN105
      have AN114 := Lib.hid (aid.below_drewN AN106.out j111)
      clear AN106
      have AN115 := Lib.hid (aid.below_drewN AN107.out j111)
      clear AN107
      have AN116 := Lib.hid (aid.below_drewN AN108.out j111)
      clear AN108
      generalize V102.drewN j111 = V112 at *
      go_wp2_with fail
      refine (HH.out V112 (MG.out.next AN116.out)).mono ?_
      rintro e w' ⟨rfl, rfl⟩
      go_wp2_with fail
      go_ret
      exact ⟨rfl, AN113.out⟩

set_option maxRecDepth 100000 in
theorem walk (a0 : Option Addr) (n0 c0 : Nat) (z0 : List Int) (a10 : Int) (a11 : Int) (a12 : Int) (a13 : Int) (a14 : Int) (w : World) (w0 : RdZ 5 w w.heap.size a0 n0 z0) (l0 : n0 ≤ maxLen) (w10 : (Lit.int .i64 a10).wf = true) (w11 : (Lit.int .i64 a11).wf = true) (w12 : (Lit.int .i64 a12).wf = true) (w13 : (Lit.int .i64 a13).wf = true) (w14 : (Lit.int .i64 a14).wf = true) :
    Calls Try.prog 9 #[.slice a0 n0 c0, .agg #[.int .i64 a10, .int .i64 a11, .int .i64 a12, .int .i64 a13, .int .i64 a14]] w fun e w' => e = .returned (.bool true) ∧ Below w.heap.size w w' := by
  by_cases hn0 : n0 ≤ 1048576
  · skip
    exact law_of a0 c0 z0 n0 a10 a11 a12 a13 a14 (lvl.lcV z0 n0 a10 a11 a12 a13 a14) ((lvl.lcV z0 n0 a10 a11 a12 a13 a14).length) (lvl.lcB z0 n0 a10 a11 a12 a13 a14) w hn0 w0 (Nat.le_trans (lvl.lcV_le z0 n0 a10 a11 a12 a13 a14) (by omega)) (rfl)
      (fun A0 c0 w hc0 h0 => lvlu.levelConflicts z0 a10 a11 a12 a13 a14 A0 n0 c0 w hc0 (by omega) h0)
      (fun A0 c0 w hc0 h0 => lvld.levelConflicts z0 a10 a11 a12 a13 a14 A0 n0 c0 w hc0 (by omega) h0)
  · have HZ0 := Lib.hid (fun w => lvle.sz a0 n0 c0 w l0)
    rw [if_neg hn0] at HZ0
    clear w0 l0 w10 w11 w12 w13 w14 hn0
    go_enter Try.func9, Try.ntmps9
    go_wp2_with fail
    refine (HZ0.out _).mono ?_
    rintro e w' ⟨rfl, rfl⟩
    go_wp2_with fail
    go_ret
    exact ⟨rfl, (Below.refl _ _).alloc (Nat.le_refl _) _⟩


theorem own : ownKnob Try.prog.godebug = none := by kernel_rfl
theorem laidOut : laidOutB Try.prog = true := by kernel_rfl

set_option maxRecDepth 100000 in
theorem lifted (os : Os) (started : os.Started) (H : Type) (enc : TypeId × Value → H) :
    ReturnsInHanded {} Try.checked os 9 .any (Rows.fnExactLevelConflictsSpec.pre6 enc Try.prog Try.f9 Rows.fnExactLevelConflictsRow.domain false) (Rows.fnExactLevelConflictsSpec.post enc Try.prog Try.f9 false true false false) := by
  refine returnsInHanded_of_change (C := Try.checked) own started (by kernel_rfl) Try.func9
    (ChangeSpec.witness6 (enc := enc) (C := Try.checked) false ⟨#[], #[.slice none 0 0, .agg #[.int .i64 0, .int .i64 0, .int .i64 0, .int .i64 0, .int .i64 0]], []⟩ 8 (by kernel_rfl) (by kernel_rfl) (by kernel_rfl) (by kernel_rfl)) ?_
  intro W base args ds gs before hval0 hW hcnd _
  have hval : ∀ (j : Nat) t v, Try.f9.params[j]? = some t → args[j]? = some v → Value.okWide Try.prog W .any base t v := hval0
  have hW' := hW
  obtain ⟨p, q, hA0, hV, rfl, hfz, hnd⟩ := hW
  have hA : DataW.TrodAll enc Try.prog W 0 (fun _ => true) true Try.f9.params.toList args.toList ds p := hA0
  rw [Try.params9] at hA hval
  obtain ⟨v0, vs0, d0, ds0, p0, q0, hargs, rfl, rfl, h0, r0⟩ := trodAll_cons hA
  obtain ⟨v1, vs1, d1, ds1, p1, q1, rfl, rfl, rfl, h1, r1⟩ := trodAll_cons r0
  obtain ⟨rfl, rfl, rfl⟩ := trodAll_nil r1
  obtain rfl : args = #[v0, v1] := by cases args; simp_all
  obtain ⟨rfl, rfl⟩ := trodVars_none hV
  obtain ⟨a0, len0, cap0, rfl⟩ := okWide_slice Try.underlying63 (hval 0 63 v0 rfl rfl)
  have k0 := h0
  have lt0 : ∀ x ∈ p0, x.block < W.heap.size := by obtain ⟨m, hm⟩ := k0; exact DataW.trod_lt m _ _ _ hm
  obtain ⟨z0, w0, n0⟩ : ∃ zs, lst.RdZ 5 W W.heap.size a0 len0 zs ∧ len0 ≤ maxLen := by
    obtain ⟨fuel, hf⟩ := h0
    obtain ⟨A, n, c, zs, hcs, hrd, hle⟩ := lsto.open_structs Try.underlying63 Try.underlying67 (by kernel_rfl) (by kernel_rfl) (by decide) (by
        intro j f hg
        match j, hg with
        | 0, hg => exact (Option.some.inj hg) ▸ Try.underlying3
        | 1, hg => exact (Option.some.inj hg) ▸ Try.underlying3
        | 2, hg => exact (Option.some.inj hg) ▸ Try.underlying3
        | 3, hg => exact (Option.some.inj hg) ▸ Try.underlying3
        | 4, hg => exact (Option.some.inj hg) ▸ Try.underlying3
        | q + 5, hg => exact absurd (Array.getElem?_eq_some_iff.1 hg).1 (by simp)) hf
    simp [Value.cells] at hcs
    obtain ⟨rfl, rfl, rfl⟩ := hcs
    exact ⟨zs, hrd, hle⟩
  have k1 := h1
  have lt1 : ∀ x ∈ p1, x.block < W.heap.size := by obtain ⟨m, hm⟩ := k1; exact DataW.trod_lt m _ _ _ hm
  obtain ⟨f10, f11, f12, f13, f14, y10, y11, y12, y13, y14, m1, rfl, rfl, rfl, t10, t11, t12, t13, t14⟩ := opn.open_agg5 Try.underlying67 (by kernel_rfl) (by kernel_rfl) (hval 1 67 v1 rfl rfl) h1
  obtain ⟨a10, e10, -, w10⟩ := DataW.trod_int Try.underlying3 t10
  obtain rfl : f10 = .int .i64 a10 := by simpa using e10
  obtain ⟨a11, e11, -, w11⟩ := DataW.trod_int Try.underlying3 t11
  obtain rfl : f11 = .int .i64 a11 := by simpa using e11
  obtain ⟨a12, e12, -, w12⟩ := DataW.trod_int Try.underlying3 t12
  obtain rfl : f12 = .int .i64 a12 := by simpa using e12
  obtain ⟨a13, e13, -, w13⟩ := DataW.trod_int Try.underlying3 t13
  obtain rfl : f13 = .int .i64 a13 := by simpa using e13
  obtain ⟨a14, e14, -, w14⟩ := DataW.trod_int Try.underlying3 t14
  obtain rfl : f14 = .int .i64 a14 := by simpa using e14
  clear hA0 hval0
  refine (walk a0 len0 cap0 z0 a10 a11 a12 a13 a14 W w0 n0 w10 w11 w12 w13 w14).mono fun e W' ⟨he, bel⟩ => ?_
  subst he
  exact ⟨_, rfl, _, _, _, [], _, [], hW', trodAll_mk1 (shut_bool Try.underlying4 _), (trodAll_cons_mk (Below.trod laidOut (by kernel_rfl) (of_decide_eq_true (by kernel_rfl)) k0 bel lt0) (trodAll_cons_mk (Below.trod laidOut (by kernel_rfl) (of_decide_eq_true (by kernel_rfl)) k1 bel lt1) trodAll_mk0)), rfl, bel.frame _, fun h => by cases h⟩

theorem over : Rows.fnExactLevelConflictsRow.holds Try.pinned (OpenSpec.ofChange Rows.fnExactLevelConflictsSpec) :=
  OpenClaim.holds_of_wide 9 Try.f9 rfl rfl rfl rfl rfl rfl rfl ⟨rfl, rfl, rfl, rfl, rfl⟩ rfl rfl rfl rfl rfl (by kernel_rfl) Try.func9 (by kernel_rfl)
    (of_decide_eq_true (by kernel_rfl)) (by unfold Func.isWrapper; first | (rw [if_pos (by decide +kernel)]; kernel_rfl) | (rw [if_neg (by decide +kernel)]; exact ⟨rfl, rfl⟩))
    (fun os started H enc _ => lifted os started H enc)

theorem proved : Rows.FnExactLevelConflictsSaid :=
  over
#print axioms proved
end Go.Proofs.Ytglonedhoenkpaa.fnExactLevelConflicts
