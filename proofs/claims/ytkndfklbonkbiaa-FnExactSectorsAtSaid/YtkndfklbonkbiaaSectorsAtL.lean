/- For every slice of sectors and every place the law FnExactSectorsAt returns true: impl.SectorsAt and spec.SectorsAt return the same Ids and true, or both an empty slice and false; the arguments are left as they were, the results share no memory. No condition. -/
import Derived.Test.YtkndfklbonkbiaaRows
import Derived.Test.YtkndfklbonkbiaaSlsD
import Derived.Test.YtkndfklbonkbiaaSlsC
import Derived.Test.YtkndfklbonkbiaaPlcE
import Derived.Test.YtkndfklbonkbiaaIntC
import Derived.Test.YtkndfklbonkbiaaLstO
import Derived.Test.YtkndfklbonkbiaaSlsB
import Derived.WalkKit
import Derived.ProofKit
import Derived.OpenShut
import Derived.ShutString
import Derived.ChangeOld
import Derived.Below
import Derived.Lib.SmallJoins
import Derived.Lib.QuietBelow
import Derived.Deep.RegionHeld3
import Derived.Deep.CutRange
namespace Go.Proofs.Ytkndfklbonkbiaa.fnExactSectorsAt
open Go.ChangeShapes Go.WideShapes Go.ChangeAt Go.RowKit Go.Joins Go.Proofs.Ytkndfklbonkbiaa.ats Go.Proofs.Ytkndfklbonkbiaa.ints Go.Proofs.Ytkndfklbonkbiaa.lst Go.Proofs.Ytkndfklbonkbiaa.intc Go.Proofs.Ytkndfklbonkbiaa.code_
open Go.ChangeMaps (open_string shut_string)
set_option linter.unusedVariables false

theorem at_cell {T : TypeId} {cs : Array Value} {w W : World} {b : Nat} (h : AtS T cs w W b) (i : Nat) (v : Value) (hv : cs[i]? = some v) : W.cell? ⟨b, i, none⟩ = some v := (h.cell i).trans hv
theorem bool_ne_self (b : Bool) : (b != b) = false := by simp
theorem int_ne_self (x : Int) : (x != x) = false := by simp

/-- The function f returns this. -/
def Gives (f : Nat) (z0 : List slsa.Se) (n0 : Nat) (a10 : Int) (a11 : Int) (V : List Int) (N : Nat) (O0 : Bool) : Prop := ∀ (A0 : Option Addr) (c0 : Nat) (w : World), n0 ≤ c0 → slsa.RdS true w w.heap.size A0 n0 z0 → 
  Calls Try.prog f #[.slice A0 n0 c0, .agg #[.int .i64 a10, .int .i64 a11]] w fun e w' => ∃ v, e = .returned (.tuple #[v, .bool O0]) ∧ w'.ownsRow w.heap.size 3 1 v N (cellsI V) ∧ Below w.heap.size w w'

set_option maxRecDepth 100000 in
set_option maxHeartbeats 8000000 in
theorem law_of (a0 : Option Addr) (c0 : Nat) (z0 : List slsa.Se) (n0 : Nat) (a10 : Int) (a11 : Int) (V : List Int) (N : Nat) (O0 : Bool) (w : World) (hn0 : n0 + slsb.tot z0 n0 ≤ 1048576) (hr0 : slsa.RdS false w w.heap.size a0 n0 z0) (hsz : ∀ (k : Nat) (p : slsa.Se), z0[k]? = some p → slsa.nc p ≤ 1048576) (hN : N ≤ 1048576) (hV : V.length = N)
    (hs : Gives 7 z0 n0 a10 a11 V N O0) (hi : Gives 10 z0 n0 a10 a11 V N O0) :
    Calls Try.prog 3 #[.slice a0 n0 c0, .agg #[.int .i64 a10, .int .i64 a11]] w fun e w' => e = .returned (.bool true) ∧ Below w.heap.size w w' := by
  have HZ := fun (W : World) (hb : Below w.heap.size w W) => slsb.szS z0 a0 n0 c0 W (by unfold maxLen; omega) (hr0.next hb)
  rw [if_pos hn0] at HZ
  have HZ0 := Lib.hid HZ
  clear HZ
  have d0 : decide ((1048576 : Int) - ((n0 + slsb.tot z0 n0 : Nat) : Int) < 0) = false := decide_eq_false (by omega)
  have d1 : ¬ (1048576 : Int) - ((n0 + slsb.tot z0 n0 : Nat) : Int) < 0 := by omega
  have HKK := Lib.hid (show slsb.kk 1 z0 n0 ≤ 3145729 by rw [slsb.kk_tot]; omega)
  have hn1 : n0 ≤ 1048576 := by omega
  have HC0 := Lib.hid (fun (w' : World) (hb : Below w.heap.size w w') => slsb.toSectorS z0 a0 n0 c0 w' hn1 hsz (hr0.next hb))
  have HL0 := Lib.hid hr0.1
  have HSZ := Lib.hid (fun (k : Nat) (p : slsa.Se) (h : z0[k]? = some p) => show slsa.nc p ≤ 1048577 from Nat.le_trans (hsz k p h) (by omega))
  have HS := Lib.hid (fun (A0 : Option Addr) (c0 : Nat) (w : World) (e0 : n0 ≤ c0) (h0 : slsa.RdS true w w.heap.size A0 n0 z0) => hs A0 c0 w e0 h0)
  have HI := Lib.hid (fun (A0 : Option Addr) (c0 : Nat) (w : World) (e0 : n0 ≤ c0) (h0 : slsa.RdS true w w.heap.size A0 n0 z0) => hi A0 c0 w e0 h0)
  have HV := Lib.hid hV
  have HNN := Lib.hid hN
  have ne0 := bool_ne_self O0
  clear hs hi hr0 hV hsz hn0
  have BX1 := Lib.hid (newS 24 #[.int .i64 a10, .int .i64 a11] w)
  go_enter Try.func3, Try.ntmps3
  go_wp2_with fail
  generalize (w.alloc (.cells #[.int .i64 a10, .int .i64 a11] 24)) = U0 at *
  refine (HZ0.out U0 BX1.out.1).mono ?_
  rintro e W0 ⟨rfl, hbY⟩
  have AN1 := Lib.hid (BX1.out.1.trans (hbY.mono BX1.out.1.size))
  have AN2 := Lib.hid hbY
  clear hbY HZ0
  generalize (1048576 : Int) - ((n0 + slsb.tot z0 n0 : Nat) : Int) = vZ at *
  go_upto_region 5 with fail
  have CS3 := Lib.hid (show ∀ WZ : World, Below W0.heap.size W0 WZ → WZ.cell? ⟨w.heap.size, 0, none⟩ = some (.int .i64 a10) ∧ WZ.cell? ⟨w.heap.size, 1, none⟩ = some (.int .i64 a11) from fun WZ hz => And.intro (at_cell (BX1.out.old (AN2.out.trans (hz.mono AN2.out.size))) 0 (.int .i64 a10) rfl) (at_cell (BX1.out.old (AN2.out.trans (hz.mono AN2.out.size))) 1 (.int .i64 a11) rfl))
  have KC0_3 := Lib.hid (fun (WZ : World) (hz : Below W0.heap.size W0 WZ) => HC0.out WZ (AN1.out.trans (hz.mono AN1.out.size)))
  go_cut [6, 7] from 21 to 28 (fun p0 p1 wz => ∃ Ax cx, p0 = .slice Ax N cx ∧ p1 = .bool O0 ∧ wz.ownsRow W0.heap.size 3 1 (.slice Ax N cx) N (cellsI V) ∧ Below W0.heap.size W0 wz)
  case first =>
    go_region_held3 (fun w' => w'.cell? ⟨w.heap.size, 0, none⟩ = some (.int .i64 a10) ∧ w'.cell? ⟨w.heap.size, 1, none⟩ = some (.int .i64 a11)) (first
      | exact CS3.out _ (Below.refl W0.heap.size W0).drew
      | exact CS3.out _ (by assumption)
      | go_keep) (first
      | (go_at_call 8; (with_reducible refine (KC0_3.out _ (by first | exact (Below.refl W0.heap.size W0).drew | assumption)).mono ?_); rintro e w0' ⟨g0, rfl, ho, hb⟩
         have hl0' := posx.bl_next (V := W0) (by first | exact (Below.refl W0.heap.size W0).drew | assumption) hb
         have r0_0 := ho.rd rfl
         clear ho hb)
      | (go_at_call 9; (with_reducible refine (plce.toPlace a10 a11 _).mono ?_); rintro e w1' ⟨rfl, hb⟩
         have hl1' := posx.bl_next (V := W0) (by first | exact (Below.refl W0.heap.size W0).drew | assumption) hb
         have r0_1 := r0_0.next hb
         clear hb)
      | (go_at_call 7; (with_reducible refine (HS.out _ _ _ (Nat.le_refl _) r0_1).mono ?_); rintro e wF' ⟨v, rfl, ho, hb⟩
         obtain ⟨Ax, cx, rfl⟩ := own_sliceZ ho
         have ho2 := own_.own_base ho (Below.size (by assumption : Below W0.heap.size W0 _))
         have hlF := posx.bl_next (V := W0) (by assumption) hb
         clear ho hb))
    all_goals (go_wp2_with fail; go_meet; exact ⟨_, _, rfl, rfl, by assumption, by assumption⟩)
  case rest =>
    obtain ⟨AW, cW, rfl, rfl, ho6, h5⟩ := hcut
    generalize wc = V4 at *
    clear CS3 KC0_3
    have AN7 := Lib.hid (AN1.out.trans (h5.mono AN1.out.size))
    clear AN1
    have AN8 := Lib.hid (AN2.out.trans (h5.mono AN2.out.size))
    clear AN2
    clear h5
    have RW := Lib.hid (intc.rd_of_own ho6 HV.out)
    clear ho6
    have AN9 := Lib.hid (Below.refl V4.heap.size V4)
    go_wp2_with fail
    refine (HC0.out V4 AN7.out).mono ?_
    rintro e V10 ⟨g13, rfl, ho12, h11⟩
    have LE14 := Lib.hid AN7.out.size
    have LE15 := Lib.hid AN8.out.size
    have LE16 := Lib.hid AN9.out.size
    have AN17 := Lib.hid (AN7.out.trans (h11.mono AN7.out.size))
    clear AN7
    have AN18 := Lib.hid (AN8.out.trans (h11.mono AN8.out.size))
    clear AN8
    have AN19 := Lib.hid (AN9.out.trans (h11.mono AN9.out.size))
    clear AN9
    have rd20 := Lib.hid ((ho12.rd rfl))
    have OW21 := Lib.hid ho12
    have AN23 := Lib.hid (Below.refl V10.heap.size V10)
    clear h11 ho12
    have S24 := Lib.hid (BX1.out.old AN18.out)
    have c25 : V10.cell? ⟨w.heap.size, 0, none⟩ = some (.int .i64 a10) := S24.out.cell 0
    have c26 : V10.cell? ⟨w.heap.size, 1, none⟩ = some (.int .i64 a11) := S24.out.cell 1
    go_wp2_with fail
    clear c25 c26 S24
    refine (plce.toPlace a10 a11 V10).mono ?_
    rintro e V27 ⟨rfl, h28⟩
    have AN29 := Lib.hid (AN17.out.trans (h28.mono AN17.out.size))
    clear AN17
    have AN30 := Lib.hid (AN18.out.trans (h28.mono AN18.out.size))
    clear AN18
    have AN31 := Lib.hid (AN19.out.trans (h28.mono AN19.out.size))
    clear AN19
    have AN32 := Lib.hid (AN23.out.trans (h28.mono AN23.out.size))
    clear AN23
    have OW33 := Lib.hid (OW21.out.below h28)
    clear OW21
    clear h28
    have rd34 := Lib.hid ((OW33.out.rd rfl))
    have LE35 := Lib.hid AN29.out.size
    have LE36 := Lib.hid AN30.out.size
    have LE37 := Lib.hid AN31.out.size
    have LE38 := Lib.hid AN32.out.size
    go_wp2_with fail
    refine (HI.out _ _ V27 (Nat.le_refl _) rd34.out).mono ?_
    rintro e V39 ⟨vG, rfl, ho41, h40⟩
    obtain ⟨AG, cG, rfl⟩ := own_sliceZ ho41
    clear rd34
    have AN42 := Lib.hid (AN29.out.trans (h40.mono AN29.out.size))
    clear AN29
    have AN43 := Lib.hid (AN30.out.trans (h40.mono AN30.out.size))
    clear AN30
    have AN44 := Lib.hid (AN31.out.trans (h40.mono AN31.out.size))
    clear AN31
    have AN45 := Lib.hid (AN32.out.trans (h40.mono AN32.out.size))
    clear AN32
    have OW46 := Lib.hid (OW33.out.below h40)
    clear OW33
    clear h40
    clear AN45
    have OW47 := Lib.hid ho41
    have LT48 := Lib.hid (own_row_lt ho41)
    clear ho41
    have E49 := Lib.hid (ints.eq_same V AG AW N cG cW V39 (by have := HNN.out; omega) (intc.rd_of_own OW47.out HV.out) (RW.out.next AN44.out))
    go_wp2_with fail
    refine E49.out.mono ?_
    rintro e wx ⟨rfl, j50, rfl⟩
    clear E49
    have AN52 := Lib.hid (aid.below_drewN AN42.out j50)
    clear AN42
    have AN53 := Lib.hid (aid.below_drewN AN43.out j50)
    clear AN43
    have AN54 := Lib.hid (aid.below_drewN AN44.out j50)
    clear AN44
    have OW55 := Lib.hid (OW46.out.below (aid.below_drewN (Below.refl _ _) j50))
    clear OW46
    have OW56 := Lib.hid (own_.own_drewN OW47.out j50)
    clear OW47
    generalize V39.drewN j50 = V51 at *
    go_wp2_with fail
    refine (HC0.out V51 AN52.out).mono ?_
    rintro e V57 ⟨g60, rfl, ho59, h58⟩
    have AN61 := Lib.hid (AN52.out.trans (h58.mono AN52.out.size))
    clear AN52
    have AN62 := Lib.hid (AN53.out.trans (h58.mono AN53.out.size))
    clear AN53
    have AN63 := Lib.hid (AN54.out.trans (h58.mono AN54.out.size))
    clear AN54
    have OW64 := Lib.hid (OW55.out.below h58)
    clear OW55
    have OW65 := Lib.hid (own_.own_below OW56.out h58)
    clear OW56
    have rd66 := Lib.hid ((ho59.rd rfl))
    clear h58 ho59
    have E67 := Lib.hid (slsb.eqSectorS z0 _ _ n0 n0 n0 V57 (by omega) HSZ.out ((OW64.out.rd rfl)) rd66.out)
    clear rd66
    go_wp2_with fail
    refine E67.out.mono ?_
    rintro e V68 ⟨rfl, h69⟩
    clear E67
    have AN70 := Lib.hid (AN61.out.trans (h69.mono AN61.out.size))
    clear AN61
    have AN71 := Lib.hid (AN62.out.trans (h69.mono AN62.out.size))
    clear AN62
    have AN72 := Lib.hid (AN63.out.trans (h69.mono AN63.out.size))
    clear AN63
    have OW73 := Lib.hid (OW64.out.below h69)
    clear OW64
    have OW74 := Lib.hid (own_.own_below OW65.out h69)
    clear OW65
    clear h69
    go_wp2_with fail
    refine (slsb.markSectorS V4.heap.size (some ⟨g13, 0, none⟩) 1 n0 n0 z0 V68 (by omega) (by have := HKK.out; omega) HL0.out OW73.out).mono ?_
    rintro e V75 ⟨rfl, h76, hkp⟩
    have AN79 := Lib.hid (AN70.out.trans (h76.mono LE14.out))
    clear AN70
    have AN80 := Lib.hid (AN71.out.trans (h76.mono LE15.out))
    clear AN71
    have AN81 := Lib.hid (AN72.out.trans (h76.mono LE16.out))
    clear AN72
    have OW82 := Lib.hid (hkp _ _ _ _ OW74.out)
    clear OW74
    clear OW73 h76 hkp
    have KN : decide (((slsb.kk 1 z0 n0 : Nat) : Int) < 0) = false := decide_eq_false (by omega)
    generalize ((slsb.kk 1 z0 n0 : Nat) : Int) = KK at *
    have E83 := Lib.hid (ints.eq_same V AG AW N cG cW V75 (by have := HNN.out; omega) (intc.rd_of_own OW82.out HV.out) (RW.out.next AN81.out))
    go_wp2_with fail
    refine E83.out.mono ?_
    rintro e wx ⟨rfl, j84, rfl⟩
    clear E83
    have AN86 := Lib.hid (aid.below_drewN AN79.out j84)
    clear AN79
    have AN87 := Lib.hid (aid.below_drewN AN80.out j84)
    clear AN80
    have AN88 := Lib.hid (aid.below_drewN AN81.out j84)
    clear AN81
    have OW89 := Lib.hid (own_.own_drewN OW82.out j84)
    clear OW82
    generalize V75.drewN j84 = V85 at *
    clear KN
    go_wp2_with fail
    refine (intc.markI V27.heap.size AG 1 N cG _ V85 (by have := HNN.out; omega) OW89.out).mono ?_
    rintro e V90 ⟨rfl, h91, hg92, ho93⟩
    have AN94 := Lib.hid (AN86.out.trans (h91.mono LE35.out))
    clear AN86
    have AN95 := Lib.hid (AN87.out.trans (h91.mono LE36.out))
    clear AN87
    have AN96 := Lib.hid (AN88.out.trans (h91.mono LE37.out))
    clear AN88
    clear OW89 h91 hg92
    have MG := Lib.hid (intc.rd_of_own ho93 (marksI_length 1 N))
    clear ho93
    have AN97 := Lib.hid (Below.refl V90.heap.size V90)
    have K5 : decide (((1 + N : Nat) : Int) < 0) = false := decide_eq_false (by omega)
    have K6 : (((1 + N : Nat) : Int) != ((1 + N : Nat) : Int)) = false := int_ne_self _
    have HH := Lib.hid (fun (W : World) h => ints.held AG 1 N cG W (by have := HNN.out; omega) (h))
    generalize ((1 + N : Nat) : Int) = K at *
    go_wp2_with fail
    refine (HH.out V90 (MG.out.next AN97.out)).mono ?_
    rintro e w' ⟨rfl, rfl⟩
    go_upto_region 24 with fail
    have CS98 := Lib.hid (show ∀ WZ : World, Below V90.heap.size V90 WZ → WZ.cell? ⟨w.heap.size, 0, none⟩ = some (.int .i64 a10) ∧ WZ.cell? ⟨w.heap.size, 1, none⟩ = some (.int .i64 a11) from fun WZ hz => And.intro (at_cell (BX1.out.old (AN95.out.trans (hz.mono AN95.out.size))) 0 (.int .i64 a10) rfl) (at_cell (BX1.out.old (AN95.out.trans (hz.mono AN95.out.size))) 1 (.int .i64 a11) rfl))
    have KC0_98 := Lib.hid (fun (WZ : World) (hz : Below V90.heap.size V90 WZ) => HC0.out WZ (AN94.out.trans (hz.mono AN94.out.size)))
    go_cut [14, 15] from 79 to 86 (fun p0 p1 wz => ∃ Ax cx, p0 = .slice Ax N cx ∧ p1 = .bool O0 ∧ wz.ownsRow V90.heap.size 3 1 (.slice Ax N cx) N (cellsI V) ∧ Below V90.heap.size V90 wz)
    case first =>
      go_region_held3 (fun w' => w'.cell? ⟨w.heap.size, 0, none⟩ = some (.int .i64 a10) ∧ w'.cell? ⟨w.heap.size, 1, none⟩ = some (.int .i64 a11)) (first
        | exact CS98.out _ (Below.refl V90.heap.size V90).drew
        | exact CS98.out _ (by assumption)
        | go_keep) (first
        | (go_at_call 8; (with_reducible refine (KC0_98.out _ (by first | exact (Below.refl V90.heap.size V90).drew | assumption)).mono ?_); rintro e w0' ⟨g0, rfl, ho, hb⟩
           have hl0' := posx.bl_next (V := V90) (by first | exact (Below.refl V90.heap.size V90).drew | assumption) hb
           have r0_0 := ho.rd rfl
           clear ho hb)
        | (go_at_call 9; (with_reducible refine (plce.toPlace a10 a11 _).mono ?_); rintro e w1' ⟨rfl, hb⟩
           have hl1' := posx.bl_next (V := V90) (by first | exact (Below.refl V90.heap.size V90).drew | assumption) hb
           have r0_1 := r0_0.next hb
           clear hb)
        | (go_at_call 10; (with_reducible refine (HI.out _ _ _ (Nat.le_refl _) r0_1).mono ?_); rintro e wF' ⟨v, rfl, ho, hb⟩
           obtain ⟨Ax, cx, rfl⟩ := own_sliceZ ho
           have ho2 := own_.own_base ho (Below.size (by assumption : Below V90.heap.size V90 _))
           have hlF := posx.bl_next (V := V90) (by assumption) hb
           clear ho hb))
      all_goals (go_wp2_with fail; go_meet; exact ⟨_, _, rfl, rfl, by assumption, by assumption⟩)
    case rest =>
      obtain ⟨AH, cH, rfl, rfl, ho101, h100⟩ := hcut
      generalize wc = V99 at *
      clear CS98 KC0_98
      have AN102 := Lib.hid (AN94.out.trans (h100.mono AN94.out.size))
      clear AN94
      have AN103 := Lib.hid (AN95.out.trans (h100.mono AN95.out.size))
      clear AN95
      have AN104 := Lib.hid (AN96.out.trans (h100.mono AN96.out.size))
      clear AN96
      have AN105 := Lib.hid (AN97.out.trans (h100.mono AN97.out.size))
      clear AN97
      clear h100
      have rd106 := intc.rd_of_own ho101 HV.out
      have E107 := Lib.hid (ints.eq_same V AH AW N cH cW V99 (by have := HNN.out; omega) (rd106) (RW.out.next AN104.out))
      go_wp2_with fail
      refine E107.out.mono ?_
      rintro e wx ⟨rfl, j108, rfl⟩
      clear E107
      have AN110 := Lib.hid (aid.below_drewN AN102.out j108)
      clear AN102
      have AN111 := Lib.hid (aid.below_drewN AN103.out j108)
      clear AN103
      have AN112 := Lib.hid (aid.below_drewN AN104.out j108)
      clear AN104
      have AN113 := Lib.hid (aid.below_drewN AN105.out j108)
      clear AN105
      generalize V99.drewN j108 = V109 at *
      go_wp2_with fail
      refine (HH.out V109 (MG.out.next AN113.out)).mono ?_
      rintro e w' ⟨rfl, rfl⟩
      go_wp2_with fail
      go_ret
      exact ⟨rfl, AN110.out⟩

set_option maxRecDepth 100000 in
theorem walk (a0 : Option Addr) (n0 c0 : Nat) (z0 : List slsa.Se) (a10 : Int) (a11 : Int) (w : World) (w0 : slsa.RdS false w w.heap.size a0 n0 z0) (l0 : n0 ≤ maxLen) (w10 : (Lit.int .i64 a10).wf = true) (w11 : (Lit.int .i64 a11).wf = true) :
    Calls Try.prog 3 #[.slice a0 n0 c0, .agg #[.int .i64 a10, .int .i64 a11]] w fun e w' => e = .returned (.bool true) ∧ Below w.heap.size w w' := by
  by_cases hn0 : n0 + slsb.tot z0 n0 ≤ 1048576
  · have HSZ : ∀ (k : Nat) (p : slsa.Se), z0[k]? = some p → slsa.nc p ≤ 1048576 := fun k p h => slsb.tot_nc h (by have := (List.getElem?_eq_some_iff.1 h).1; have := w0.1; omega) hn0
    exact law_of a0 c0 z0 n0 a10 a11 (slsr.satV z0 n0 a10 a11) ((slsr.satV z0 n0 a10 a11).length) (slsr.satB z0 n0 a10 a11) w hn0 w0 HSZ (Nat.le_trans (slsr.satV_le z0 n0 a10 a11) (by omega)) (rfl)
      (fun A0 c0 w hc0 h0 => slsd.sectorsAt z0 a10 a11 A0 n0 c0 w (by omega) HSZ h0)
      (fun A0 c0 w hc0 h0 => slsc.sectorsAt z0 a10 a11 A0 n0 c0 w (by omega) HSZ h0)
  · have HZ := fun (W : World) (hb : Below w.heap.size w W) => slsb.szS z0 a0 n0 c0 W l0 (w0.next hb)
    rw [if_neg hn0] at HZ
    have HZ0 := Lib.hid HZ
    have BX1 := Lib.hid (newS 24 #[.int .i64 a10, .int .i64 a11] w)
    clear HZ w0 l0 w10 w11 hn0
    go_enter Try.func3, Try.ntmps3
    go_wp2_with fail
    refine (HZ0.out _ BX1.out.1).mono ?_
    rintro e w' ⟨rfl, hb⟩
    have BX := Lib.hid (BX1.out.1.trans (hb.mono BX1.out.1.size))
    clear hb
    go_wp2_with fail
    go_ret
    exact ⟨rfl, BX.out⟩

theorem own : ownKnob Try.prog.godebug = none := by kernel_rfl
theorem laidOut : laidOutB Try.prog = true := by kernel_rfl

set_option maxRecDepth 100000 in
theorem lifted (os : Os) (started : os.Started) (H : Type) (enc : TypeId × Value → H) :
    ReturnsInHanded {} Try.checked os 3 .any (Rows.fnExactSectorsAtSpec.pre6 enc Try.prog Try.f3 Rows.fnExactSectorsAtRow.domain false) (Rows.fnExactSectorsAtSpec.post enc Try.prog Try.f3 false true false false) := by
  refine returnsInHanded_of_change (C := Try.checked) own started (by kernel_rfl) Try.func3
    (ChangeSpec.witness6 (enc := enc) (C := Try.checked) false ⟨#[], #[.slice none 0 0, .agg #[.int .i64 0, .int .i64 0]], []⟩ 8 (by kernel_rfl) (by kernel_rfl) (by kernel_rfl) (by kernel_rfl)) ?_
  intro W base args ds gs before hval0 hW hcnd _
  have hval : ∀ (j : Nat) t v, Try.f3.params[j]? = some t → args[j]? = some v → Value.okWide Try.prog W .any base t v := hval0
  have hW' := hW
  obtain ⟨p, q, hA0, hV, rfl, hfz, hnd⟩ := hW
  have hA : DataW.TrodAll enc Try.prog W 0 (fun _ => true) true Try.f3.params.toList args.toList ds p := hA0
  rw [Try.params3] at hA hval
  obtain ⟨v0, vs0, d0, ds0, p0, q0, hargs, rfl, rfl, h0, r0⟩ := trodAll_cons hA
  obtain ⟨v1, vs1, d1, ds1, p1, q1, rfl, rfl, rfl, h1, r1⟩ := trodAll_cons r0
  obtain ⟨rfl, rfl, rfl⟩ := trodAll_nil r1
  obtain rfl : args = #[v0, v1] := by cases args; simp_all
  obtain ⟨rfl, rfl⟩ := trodVars_none hV
  obtain ⟨a0, len0, cap0, rfl⟩ := okWide_slice Try.underlying22 (hval 0 22 v0 rfl rfl)
  have k0 := h0
  have lt0 : ∀ x ∈ p0, x.block < W.heap.size := by obtain ⟨m, hm⟩ := k0; exact DataW.trod_lt m _ _ _ hm
  obtain ⟨z0, w0, n0⟩ : ∃ ps, slsa.RdS false W W.heap.size a0 len0 ps ∧ len0 ≤ maxLen := by
    obtain ⟨fuel, hf⟩ := h0
    obtain ⟨A, n, c, ps, hcs, hrd, hle⟩ := slsb.open_sectors hf
    simp [Value.cells] at hcs
    obtain ⟨rfl, rfl, rfl⟩ := hcs
    exact ⟨ps, hrd, hle⟩
  have k1 := h1
  have lt1 : ∀ x ∈ p1, x.block < W.heap.size := by obtain ⟨m, hm⟩ := k1; exact DataW.trod_lt m _ _ _ hm
  obtain ⟨f10, f11, y10, y11, m1, rfl, rfl, rfl, t10, t11⟩ := open_agg2 Try.underlying24 (by kernel_rfl) (by kernel_rfl) (hval 1 24 v1 rfl rfl) h1
  obtain ⟨a10, e10, -, w10⟩ := DataW.trod_int Try.underlying3 t10
  obtain rfl : f10 = .int .i64 a10 := by simpa using e10
  obtain ⟨a11, e11, -, w11⟩ := DataW.trod_int Try.underlying3 t11
  obtain rfl : f11 = .int .i64 a11 := by simpa using e11
  clear hA0 hval0
  refine (walk a0 len0 cap0 z0 a10 a11 W w0 n0 w10 w11).mono fun e W' ⟨he, bel⟩ => ?_
  subst he
  exact ⟨_, rfl, _, _, _, [], _, [], hW', trodAll_mk1 (shut_bool Try.underlying4 _), (trodAll_cons_mk (Below.trod laidOut (by kernel_rfl) (of_decide_eq_true (by kernel_rfl)) k0 bel lt0) (trodAll_cons_mk (Below.trod laidOut (by kernel_rfl) (of_decide_eq_true (by kernel_rfl)) k1 bel lt1) trodAll_mk0)), rfl, bel.frame _, fun h => by cases h⟩

theorem over : Rows.fnExactSectorsAtRow.holds Try.pinned (OpenSpec.ofChange Rows.fnExactSectorsAtSpec) :=
  OpenClaim.holds_of_wide 3 Try.f3 rfl rfl rfl rfl rfl rfl rfl ⟨rfl, rfl, rfl, rfl, rfl⟩ rfl rfl rfl rfl rfl (by kernel_rfl) Try.func3 (by kernel_rfl)
    (of_decide_eq_true (by kernel_rfl)) (by unfold Func.isWrapper; first | (rw [if_pos (by decide +kernel)]; kernel_rfl) | (rw [if_neg (by decide +kernel)]; exact ⟨rfl, rfl⟩))
    (fun os started H enc _ => lifted os started H enc)

theorem proved : Rows.FnExactSectorsAtSaid :=
  over
#print axioms proved
end Go.Proofs.Ytkndfklbonkbiaa.fnExactSectorsAt
