/- For every slice of sites, every point and every slice of ints the law FnExactSendTimes returns true: impl.SendTimes and spec.SendTimes return the same arrivals minus distances and true, or both an empty slice and false; the arguments are left as they were, the results share no memory. No condition. -/
import Derived.Test.YtpbopiecfnedgaaRows
import Derived.Test.YtpbopiecfnedgaaSitJ
import Derived.Test.YtpbopiecfnedgaaSitT
import Derived.Test.YtpbopiecfnedgaaIntC
import Derived.Test.YtpbopiecfnedgaaLstO
import Derived.Test.YtpbopiecfnedgaaSitE
import Derived.WalkKit
import Derived.ProofKit
import Derived.OpenShut
import Derived.ShutString
import Derived.ChangeOld
import Derived.Below
import Derived.Lib.SmallJoins
import Derived.Lib.QuietBelow
import Derived.Deep.RegionHeld3
import Derived.Deep.CutRange
namespace Go.Proofs.Ytpbopiecfnedgaa.fnExactSendTimes
open Go.ChangeShapes Go.WideShapes Go.ChangeAt Go.RowKit Go.Joins Go.Proofs.Ytpbopiecfnedgaa.ats Go.Proofs.Ytpbopiecfnedgaa.ints Go.Proofs.Ytpbopiecfnedgaa.lst Go.Proofs.Ytpbopiecfnedgaa.intc Go.Proofs.Ytpbopiecfnedgaa.code_
open Go.ChangeMaps (open_string shut_string)
set_option linter.unusedVariables false

theorem bool_ne_self (b : Bool) : (b != b) = false := by simp
theorem int_ne_self (x : Int) : (x != x) = false := by simp

/-- The function f returns this. -/
def Gives (f : Nat) (z0 : List Int) (n0 : Nat) (z2 : List Int) (n2 : Nat) (a10 : Int) (a11 : Int) (V : List Int) (N : Nat) (O0 : Bool) : Prop := ∀ (A0 : Option Addr) (c0 : Nat) (A2 : Option Addr) (c2 : Nat) (w : World), n0 ≤ c0 → n2 ≤ c2 → RdZ 2 w w.heap.size A0 n0 z0 → RdI w w.heap.size A2 n2 z2 → 
  Calls Try.prog f #[.slice A0 n0 c0, .agg #[.int .i64 a10, .int .i64 a11], .slice A2 n2 c2] w fun e w' => ∃ v, e = .returned (.tuple #[v, .bool O0]) ∧ w'.ownsRow w.heap.size 3 1 v N (cellsI V) ∧ Below w.heap.size w w'

set_option maxRecDepth 100000 in
set_option maxHeartbeats 8000000 in
theorem law_of (a0 : Option Addr) (c0 : Nat) (a2 : Option Addr) (c2 : Nat) (z0 : List Int) (n0 : Nat) (z2 : List Int) (n2 : Nat) (a10 : Int) (a11 : Int) (V : List Int) (N : Nat) (O0 : Bool) (w : World) (hn0 : n0 ≤ 1048576) (hr0 : RdZ 2 w w.heap.size a0 n0 z0) (hn2 : n2 ≤ 1048576) (hr2 : RdI w w.heap.size a2 n2 z2) (hN : N ≤ 1048576) (hV : V.length = N)
    (hs : Gives 25 z0 n0 z2 n2 a10 a11 V N O0) (hi : Gives 27 z0 n0 z2 n2 a10 a11 V N O0) :
    Calls Try.prog 5 #[.slice a0 n0 c0, .agg #[.int .i64 a10, .int .i64 a11], .slice a2 n2 c2] w fun e w' => e = .returned (.bool true) ∧ Below w.heap.size w w' := by
  have HZ0 := Lib.hid (fun w => site.sz a0 n0 c0 w (by unfold maxLen; omega))
  rw [if_pos hn0] at HZ0
  have d0 : decide ((1048576 : Int) - (n0 : Int) < 0) = false := decide_eq_false (by omega)
  have HC0 := Lib.hid (fun (w' : World) (hb : Below w.heap.size w w') => site.copyS z0 a0 n0 c0 w' hn0 (hr0.next hb))
  have HL0 := Lib.hid hr0.1
  have d2 : ¬ (1048576 : Int) < (n2 : Int) := by omega
  have HC2 := Lib.hid (fun (w' : World) (hb : Below w.heap.size w w') => intc.copyI z2 a2 n2 c2 w' hn2 (hr2.next hb))
  have HL2 := Lib.hid hr2.1
  have HS := Lib.hid (fun (A0 : Option Addr) (c0 : Nat) (A2 : Option Addr) (c2 : Nat) (w : World) (e0 : n0 ≤ c0) (e2 : n2 ≤ c2) (h0 : RdZ 2 w w.heap.size A0 n0 z0) (h2 : RdI w w.heap.size A2 n2 z2) => hs A0 c0 A2 c2 w e0 e2 h0 h2)
  have HI := Lib.hid (fun (A0 : Option Addr) (c0 : Nat) (A2 : Option Addr) (c2 : Nat) (w : World) (e0 : n0 ≤ c0) (e2 : n2 ≤ c2) (h0 : RdZ 2 w w.heap.size A0 n0 z0) (h2 : RdI w w.heap.size A2 n2 z2) => hi A0 c0 A2 c2 w e0 e2 h0 h2)
  have HV := Lib.hid hV
  have HNN := Lib.hid hN
  have ne0 := bool_ne_self O0
  clear hs hi hr0 hr2 hV
  have BX1 := Lib.hid (newS 30 #[.int .i64 a10, .int .i64 a11] w)
  go_enter Try.func5, Try.ntmps5
  go_wp2_with fail
  generalize (w.alloc (.cells #[.int .i64 a10, .int .i64 a11] 30)) = W0 at *
  have AN1 := Lib.hid (BX1.out.1)
  have AN2 := Lib.hid (Below.refl W0.heap.size W0)
  refine (HZ0.out W0).mono ?_
  rintro e w' ⟨rfl, rfl⟩
  go_upto_region 7 with fail
  have CS3 := Lib.hid (show ∀ WZ : World, Below W0.heap.size W0 WZ → WZ.cell? ⟨w.heap.size, 0, none⟩ = some (.int .i64 a10) ∧ WZ.cell? ⟨w.heap.size, 1, none⟩ = some (.int .i64 a11) from fun WZ hz => And.intro (site.at_cell (BX1.out.old (AN2.out.trans (hz.mono AN2.out.size))) 0 (.int .i64 a10) rfl) (site.at_cell (BX1.out.old (AN2.out.trans (hz.mono AN2.out.size))) 1 (.int .i64 a11) rfl))
  have KC0_3 := Lib.hid (fun (WZ : World) (hz : Below W0.heap.size W0 WZ) => HC0.out WZ (AN1.out.trans (hz.mono AN1.out.size)))
  have KC2_3 := Lib.hid (fun (WZ : World) (hz : Below W0.heap.size W0 WZ) => HC2.out WZ (AN1.out.trans (hz.mono AN1.out.size)))
  go_cut [8, 9] from 27 to 36 (fun p0 p1 wz => ∃ Ax cx, p0 = .slice Ax N cx ∧ p1 = .bool O0 ∧ wz.ownsRow W0.heap.size 3 1 (.slice Ax N cx) N (cellsI V) ∧ Below W0.heap.size W0 wz)
  case first =>
    go_region_held3 (fun w' => w'.cell? ⟨w.heap.size, 0, none⟩ = some (.int .i64 a10) ∧ w'.cell? ⟨w.heap.size, 1, none⟩ = some (.int .i64 a11)) (first
      | exact CS3.out _ (Below.refl W0.heap.size W0).drew
      | exact CS3.out _ (by assumption)
      | go_keep) (first
      | (go_at_call 15; (with_reducible refine (KC0_3.out _ (by first | exact (Below.refl W0.heap.size W0).drew | assumption)).mono ?_); rintro e w0' ⟨g0, rfl, ho, hb⟩
         have hl0' := site.bl_next (V := W0) (by first | exact (Below.refl W0.heap.size W0).drew | assumption) hb
         have r0_0 := RdZ.of_own ho HL0.out
         clear ho hb)
      | (go_at_call 19; (with_reducible refine (site.toSite a10 a11 _).mono ?_); rintro e w1' ⟨rfl, hb⟩
         have hl1' := site.bl_next (V := W0) (by first | exact (Below.refl W0.heap.size W0).drew | assumption) hb
         have r0_1 := r0_0.next hb
         clear hb)
      | (go_at_call 26; (with_reducible refine (KC2_3.out _ (by first | exact (Below.refl W0.heap.size W0).drew | assumption)).mono ?_); rintro e w2' ⟨g2, rfl, ho, hb⟩
         have hl2' := site.bl_next (V := W0) (by first | exact (Below.refl W0.heap.size W0).drew | assumption) hb
         have r0_2 := r0_1.next hb
         have r2_2 := intc.rd_of_own ho HL2.out
         clear ho hb)
      | (go_at_call 25; (with_reducible refine (HS.out _ _ _ _ _ (Nat.le_refl _) (Nat.le_refl _) r0_2 r2_2).mono ?_); rintro e wF' ⟨v, rfl, ho, hb⟩
         obtain ⟨Ax, cx, rfl⟩ := own_sliceZ ho
         have ho2 := own_.own_base ho (Below.size (by assumption : Below W0.heap.size W0 _))
         have hlF := site.bl_next (V := W0) (by assumption) hb
         clear ho hb))
    all_goals (go_wp2_with fail; go_meet; exact ⟨_, _, rfl, rfl, by assumption, by assumption⟩)
  case rest =>
    obtain ⟨AW, cW, rfl, rfl, ho6, h5⟩ := hcut
    generalize wc = V4 at *
    clear CS3 KC0_3 KC2_3
    have AN7 := Lib.hid (AN1.out.trans (h5.mono AN1.out.size))
    clear AN1
    have AN8 := Lib.hid (AN2.out.trans (h5.mono AN2.out.size))
    clear AN2
    clear h5
    have RW := Lib.hid (intc.rd_of_own ho6 HV.out)
    clear ho6
    have AN9 := Lib.hid (Below.refl V4.heap.size V4)
    go_wp2_with fail
    refine (HC0.out V4 AN7.out).mono ?_
    rintro e V10 ⟨g13, rfl, ho12, h11⟩
    have LE14 := Lib.hid AN7.out.size
    have LE15 := Lib.hid AN8.out.size
    have LE16 := Lib.hid AN9.out.size
    have AN17 := Lib.hid (AN7.out.trans (h11.mono AN7.out.size))
    clear AN7
    have AN18 := Lib.hid (AN8.out.trans (h11.mono AN8.out.size))
    clear AN8
    have AN19 := Lib.hid (AN9.out.trans (h11.mono AN9.out.size))
    clear AN9
    have rd20 := Lib.hid (RdZ.of_own ho12 HL0.out)
    have OW21 := Lib.hid ho12
    have LT22 := Lib.hid (own_row_lt ho12)
    have AN23 := Lib.hid (Below.refl V10.heap.size V10)
    clear h11 ho12
    go_wp2_with fail
    refine (HC2.out V10 AN17.out).mono ?_
    rintro e V24 ⟨g27, rfl, ho26, h25⟩
    have LE28 := Lib.hid AN17.out.size
    have LE29 := Lib.hid AN18.out.size
    have LE30 := Lib.hid AN19.out.size
    have LE31 := Lib.hid AN23.out.size
    have AN32 := Lib.hid (AN17.out.trans (h25.mono AN17.out.size))
    clear AN17
    have AN33 := Lib.hid (AN18.out.trans (h25.mono AN18.out.size))
    clear AN18
    have AN34 := Lib.hid (AN19.out.trans (h25.mono AN19.out.size))
    clear AN19
    have AN35 := Lib.hid (AN23.out.trans (h25.mono AN23.out.size))
    clear AN23
    have OW36 := Lib.hid (own_.own_below OW21.out h25)
    clear OW21
    have rd37 := Lib.hid (intc.rd_of_own ho26 HL2.out)
    have OW38 := Lib.hid ho26
    have LT39 := Lib.hid (own_row_lt ho26)
    have AN40 := Lib.hid (Below.refl V24.heap.size V24)
    clear h25 ho26
    have S41 := Lib.hid (BX1.out.old AN33.out)
    have c42 : V24.cell? ⟨w.heap.size, 0, none⟩ = some (.int .i64 a10) := S41.out.cell 0
    have c43 : V24.cell? ⟨w.heap.size, 1, none⟩ = some (.int .i64 a11) := S41.out.cell 1
    go_wp2_with fail
    clear c42 c43 S41
    refine (site.toSite a10 a11 V24).mono ?_
    rintro e V44 ⟨rfl, h45⟩
    have AN46 := Lib.hid (AN32.out.trans (h45.mono AN32.out.size))
    clear AN32
    have AN47 := Lib.hid (AN33.out.trans (h45.mono AN33.out.size))
    clear AN33
    have AN48 := Lib.hid (AN34.out.trans (h45.mono AN34.out.size))
    clear AN34
    have AN49 := Lib.hid (AN35.out.trans (h45.mono AN35.out.size))
    clear AN35
    have AN50 := Lib.hid (AN40.out.trans (h45.mono AN40.out.size))
    clear AN40
    have OW51 := Lib.hid (own_.own_below OW36.out h45)
    clear OW36
    have OW52 := Lib.hid (own_.own_below OW38.out h45)
    clear OW38
    clear h45
    have rd53 := Lib.hid (RdZ.of_own OW51.out HL0.out)
    have rd54 := Lib.hid (intc.rd_of_own OW52.out HL2.out)
    have LE55 := Lib.hid AN46.out.size
    have LE56 := Lib.hid AN47.out.size
    have LE57 := Lib.hid AN48.out.size
    have LE58 := Lib.hid AN49.out.size
    have LE59 := Lib.hid AN50.out.size
    go_wp2_with fail
    refine (HI.out _ _ _ _ V44 (Nat.le_refl _) (Nat.le_refl _) rd53.out rd54.out).mono ?_
    rintro e V60 ⟨vG, rfl, ho62, h61⟩
    obtain ⟨AG, cG, rfl⟩ := own_sliceZ ho62
    clear rd53 rd54
    have AN63 := Lib.hid (AN46.out.trans (h61.mono AN46.out.size))
    clear AN46
    have AN64 := Lib.hid (AN47.out.trans (h61.mono AN47.out.size))
    clear AN47
    have AN65 := Lib.hid (AN48.out.trans (h61.mono AN48.out.size))
    clear AN48
    have AN66 := Lib.hid (AN49.out.trans (h61.mono AN49.out.size))
    clear AN49
    have AN67 := Lib.hid (AN50.out.trans (h61.mono AN50.out.size))
    clear AN50
    have OW68 := Lib.hid (own_.own_below OW51.out h61)
    clear OW51
    have OW69 := Lib.hid (own_.own_below OW52.out h61)
    clear OW52
    clear h61
    clear AN66
    clear AN67
    have OW70 := Lib.hid ho62
    have LT71 := Lib.hid (own_row_lt ho62)
    clear ho62
    have E72 := Lib.hid (ints.eq_same V AG AW N cG cW V60 (by have := HNN.out; omega) (intc.rd_of_own OW70.out HV.out) (RW.out.next AN65.out))
    go_wp2_with fail
    refine E72.out.mono ?_
    rintro e wx ⟨rfl, j73, rfl⟩
    clear E72
    have AN75 := Lib.hid (aid.below_drewN AN63.out j73)
    clear AN63
    have AN76 := Lib.hid (aid.below_drewN AN64.out j73)
    clear AN64
    have AN77 := Lib.hid (aid.below_drewN AN65.out j73)
    clear AN65
    have OW78 := Lib.hid (own_.own_drewN OW68.out j73)
    clear OW68
    have OW79 := Lib.hid (own_.own_drewN OW69.out j73)
    clear OW69
    have OW80 := Lib.hid (own_.own_drewN OW70.out j73)
    clear OW70
    generalize V60.drewN j73 = V74 at *
    go_wp2_with fail
    refine (HC0.out V74 AN75.out).mono ?_
    rintro e V81 ⟨g84, rfl, ho83, h82⟩
    have AN85 := Lib.hid (AN75.out.trans (h82.mono AN75.out.size))
    clear AN75
    have AN86 := Lib.hid (AN76.out.trans (h82.mono AN76.out.size))
    clear AN76
    have AN87 := Lib.hid (AN77.out.trans (h82.mono AN77.out.size))
    clear AN77
    have OW88 := Lib.hid (own_.own_below OW78.out h82)
    clear OW78
    have OW89 := Lib.hid (own_.own_below OW79.out h82)
    clear OW79
    have OW90 := Lib.hid (own_.own_below OW80.out h82)
    clear OW80
    have rd91 := Lib.hid (RdZ.of_own ho83 HL0.out)
    clear h82 ho83
    have E92 := Lib.hid (site.eqS z0 _ _ n0 n0 n0 V81 (by omega) (RdZ.of_own OW88.out HL0.out) rd91.out)
    clear rd91
    go_wp2_with fail
    refine E92.out.mono ?_
    rintro e V93 ⟨rfl, h94⟩
    clear E92
    have AN95 := Lib.hid (AN85.out.trans (h94.mono AN85.out.size))
    clear AN85
    have AN96 := Lib.hid (AN86.out.trans (h94.mono AN86.out.size))
    clear AN86
    have AN97 := Lib.hid (AN87.out.trans (h94.mono AN87.out.size))
    clear AN87
    have OW98 := Lib.hid (own_.own_below OW88.out h94)
    clear OW88
    have OW99 := Lib.hid (own_.own_below OW89.out h94)
    clear OW89
    have OW100 := Lib.hid (own_.own_below OW90.out h94)
    clear OW90
    clear h94
    go_wp2_with fail
    refine (HC2.out V93 AN95.out).mono ?_
    rintro e V101 ⟨g104, rfl, ho103, h102⟩
    have AN105 := Lib.hid (AN95.out.trans (h102.mono AN95.out.size))
    clear AN95
    have AN106 := Lib.hid (AN96.out.trans (h102.mono AN96.out.size))
    clear AN96
    have AN107 := Lib.hid (AN97.out.trans (h102.mono AN97.out.size))
    clear AN97
    have OW108 := Lib.hid (own_.own_below OW98.out h102)
    clear OW98
    have OW109 := Lib.hid (own_.own_below OW99.out h102)
    clear OW99
    have OW110 := Lib.hid (own_.own_below OW100.out h102)
    clear OW100
    have rd111 := Lib.hid (intc.rd_of_own ho103 HL2.out)
    clear h102 ho103
    have E112 := Lib.hid (ints.eq_same z2 _ _ n2 n2 n2 V101 (by omega) (intc.rd_of_own OW109.out HL2.out) rd111.out)
    clear rd111
    go_wp2_with fail
    refine E112.out.mono ?_
    rintro e wx ⟨rfl, j113, rfl⟩
    clear E112
    have AN115 := Lib.hid (aid.below_drewN AN105.out j113)
    clear AN105
    have AN116 := Lib.hid (aid.below_drewN AN106.out j113)
    clear AN106
    have AN117 := Lib.hid (aid.below_drewN AN107.out j113)
    clear AN107
    have OW118 := Lib.hid (own_.own_drewN OW108.out j113)
    clear OW108
    have OW119 := Lib.hid (own_.own_drewN OW109.out j113)
    clear OW109
    have OW120 := Lib.hid (own_.own_drewN OW110.out j113)
    clear OW110
    generalize V101.drewN j113 = V114 at *
    go_wp2_with fail
    refine (site.markS V4.heap.size (some ⟨g13, 0, none⟩) 1 n0 n0 _ V114 (by have := HNN.out; omega) OW118.out).mono ?_
    rintro e V121 ⟨rfl, h122, hg123, ho124⟩
    have AN125 := Lib.hid (AN115.out.trans (h122.mono LE14.out))
    clear AN115
    have AN126 := Lib.hid (AN116.out.trans (h122.mono LE15.out))
    clear AN116
    have AN127 := Lib.hid (AN117.out.trans (h122.mono LE16.out))
    clear AN117
    have OW128 := Lib.hid (own_kept OW119.out hg123 (fun q hq => Nat.lt_of_lt_of_le (LT22.out q hq) LE31.out))
    clear OW119
    have OW129 := Lib.hid (own_kept OW120.out hg123 (fun q hq => Nat.lt_of_lt_of_le (LT22.out q hq) LE58.out))
    clear OW120
    clear OW118 h122 hg123
    clear ho124
    go_wp2_with fail
    refine (intc.markI V10.heap.size (some ⟨g27, 0, none⟩) (1 + n0 * 2) n2 n2 _ V121 (by have := HNN.out; omega) OW128.out).mono ?_
    rintro e V130 ⟨rfl, h131, hg132, ho133⟩
    have AN134 := Lib.hid (AN125.out.trans (h131.mono LE28.out))
    clear AN125
    have AN135 := Lib.hid (AN126.out.trans (h131.mono LE29.out))
    clear AN126
    have AN136 := Lib.hid (AN127.out.trans (h131.mono LE30.out))
    clear AN127
    have OW137 := Lib.hid (own_kept OW129.out hg132 (fun q hq => Nat.lt_of_lt_of_le (LT39.out q hq) LE59.out))
    clear OW129
    clear OW128 h131 hg132
    clear ho133
    have KN : decide ((((1 + n0 * 2) + n2 : Nat) : Int) < 0) = false := decide_eq_false (by omega)
    generalize (((1 + n0 * 2) + n2 : Nat) : Int) = KK at *
    have E138 := Lib.hid (ints.eq_same V AG AW N cG cW V130 (by have := HNN.out; omega) (intc.rd_of_own OW137.out HV.out) (RW.out.next AN136.out))
    go_wp2_with fail
    refine E138.out.mono ?_
    rintro e wx ⟨rfl, j139, rfl⟩
    clear E138
    have AN141 := Lib.hid (aid.below_drewN AN134.out j139)
    clear AN134
    have AN142 := Lib.hid (aid.below_drewN AN135.out j139)
    clear AN135
    have AN143 := Lib.hid (aid.below_drewN AN136.out j139)
    clear AN136
    have OW144 := Lib.hid (own_.own_drewN OW137.out j139)
    clear OW137
    generalize V130.drewN j139 = V140 at *
    clear KN
    go_wp2_with fail
    refine (intc.markI V44.heap.size AG 1 N cG _ V140 (by have := HNN.out; omega) OW144.out).mono ?_
    rintro e V145 ⟨rfl, h146, hg147, ho148⟩
    have AN149 := Lib.hid (AN141.out.trans (h146.mono LE55.out))
    clear AN141
    have AN150 := Lib.hid (AN142.out.trans (h146.mono LE56.out))
    clear AN142
    have AN151 := Lib.hid (AN143.out.trans (h146.mono LE57.out))
    clear AN143
    clear OW144 h146 hg147
    have MG := Lib.hid (intc.rd_of_own ho148 (marksI_length 1 N))
    clear ho148
    have AN152 := Lib.hid (Below.refl V145.heap.size V145)
    have K5 : decide (((1 + N : Nat) : Int) < 0) = false := decide_eq_false (by omega)
    have K6 : (((1 + N : Nat) : Int) != ((1 + N : Nat) : Int)) = false := int_ne_self _
    have HH := Lib.hid (fun (W : World) h => ints.held AG 1 N cG W (by have := HNN.out; omega) (h))
    generalize ((1 + N : Nat) : Int) = K at *
    go_wp2_with fail
    refine (HH.out V145 (MG.out.next AN152.out)).mono ?_
    rintro e w' ⟨rfl, rfl⟩
    go_upto_region 30 with fail
    have CS153 := Lib.hid (show ∀ WZ : World, Below V145.heap.size V145 WZ → WZ.cell? ⟨w.heap.size, 0, none⟩ = some (.int .i64 a10) ∧ WZ.cell? ⟨w.heap.size, 1, none⟩ = some (.int .i64 a11) from fun WZ hz => And.intro (site.at_cell (BX1.out.old (AN150.out.trans (hz.mono AN150.out.size))) 0 (.int .i64 a10) rfl) (site.at_cell (BX1.out.old (AN150.out.trans (hz.mono AN150.out.size))) 1 (.int .i64 a11) rfl))
    have KC0_153 := Lib.hid (fun (WZ : World) (hz : Below V145.heap.size V145 WZ) => HC0.out WZ (AN149.out.trans (hz.mono AN149.out.size)))
    have KC2_153 := Lib.hid (fun (WZ : World) (hz : Below V145.heap.size V145 WZ) => HC2.out WZ (AN149.out.trans (hz.mono AN149.out.size)))
    go_cut [17, 18] from 98 to 107 (fun p0 p1 wz => ∃ Ax cx, p0 = .slice Ax N cx ∧ p1 = .bool O0 ∧ wz.ownsRow V145.heap.size 3 1 (.slice Ax N cx) N (cellsI V) ∧ Below V145.heap.size V145 wz)
    case first =>
      go_region_held3 (fun w' => w'.cell? ⟨w.heap.size, 0, none⟩ = some (.int .i64 a10) ∧ w'.cell? ⟨w.heap.size, 1, none⟩ = some (.int .i64 a11)) (first
        | exact CS153.out _ (Below.refl V145.heap.size V145).drew
        | exact CS153.out _ (by assumption)
        | go_keep) (first
        | (go_at_call 15; (with_reducible refine (KC0_153.out _ (by first | exact (Below.refl V145.heap.size V145).drew | assumption)).mono ?_); rintro e w0' ⟨g0, rfl, ho, hb⟩
           have hl0' := site.bl_next (V := V145) (by first | exact (Below.refl V145.heap.size V145).drew | assumption) hb
           have r0_0 := RdZ.of_own ho HL0.out
           clear ho hb)
        | (go_at_call 19; (with_reducible refine (site.toSite a10 a11 _).mono ?_); rintro e w1' ⟨rfl, hb⟩
           have hl1' := site.bl_next (V := V145) (by first | exact (Below.refl V145.heap.size V145).drew | assumption) hb
           have r0_1 := r0_0.next hb
           clear hb)
        | (go_at_call 26; (with_reducible refine (KC2_153.out _ (by first | exact (Below.refl V145.heap.size V145).drew | assumption)).mono ?_); rintro e w2' ⟨g2, rfl, ho, hb⟩
           have hl2' := site.bl_next (V := V145) (by first | exact (Below.refl V145.heap.size V145).drew | assumption) hb
           have r0_2 := r0_1.next hb
           have r2_2 := intc.rd_of_own ho HL2.out
           clear ho hb)
        | (go_at_call 27; (with_reducible refine (HI.out _ _ _ _ _ (Nat.le_refl _) (Nat.le_refl _) r0_2 r2_2).mono ?_); rintro e wF' ⟨v, rfl, ho, hb⟩
           obtain ⟨Ax, cx, rfl⟩ := own_sliceZ ho
           have ho2 := own_.own_base ho (Below.size (by assumption : Below V145.heap.size V145 _))
           have hlF := site.bl_next (V := V145) (by assumption) hb
           clear ho hb))
      all_goals (go_wp2_with fail; go_meet; exact ⟨_, _, rfl, rfl, by assumption, by assumption⟩)
    case rest =>
      obtain ⟨AH, cH, rfl, rfl, ho156, h155⟩ := hcut
      generalize wc = V154 at *
      clear CS153 KC0_153 KC2_153
      have AN157 := Lib.hid (AN149.out.trans (h155.mono AN149.out.size))
      clear AN149
      have AN158 := Lib.hid (AN150.out.trans (h155.mono AN150.out.size))
      clear AN150
      have AN159 := Lib.hid (AN151.out.trans (h155.mono AN151.out.size))
      clear AN151
      have AN160 := Lib.hid (AN152.out.trans (h155.mono AN152.out.size))
      clear AN152
      clear h155
      have rd161 := intc.rd_of_own ho156 HV.out
      have E162 := Lib.hid (ints.eq_same V AH AW N cH cW V154 (by have := HNN.out; omega) (rd161) (RW.out.next AN159.out))
      go_wp2_with fail
      refine E162.out.mono ?_
      rintro e wx ⟨rfl, j163, rfl⟩
      clear E162
      have AN165 := Lib.hid (aid.below_drewN AN157.out j163)
      clear AN157
      have AN166 := Lib.hid (aid.below_drewN AN158.out j163)
      clear AN158
      have AN167 := Lib.hid (aid.below_drewN AN159.out j163)
      clear AN159
      have AN168 := Lib.hid (aid.below_drewN AN160.out j163)
      clear AN160
      generalize V154.drewN j163 = V164 at *
      go_wp2_with fail
      refine (HH.out V164 (MG.out.next AN168.out)).mono ?_
      rintro e w' ⟨rfl, rfl⟩
      go_wp2_with fail
      go_ret
      exact ⟨rfl, AN165.out⟩

set_option maxRecDepth 100000 in
theorem walk (a0 : Option Addr) (n0 c0 : Nat) (z0 : List Int) (a10 : Int) (a11 : Int) (a2 : Option Addr) (n2 c2 : Nat) (z2 : List Int) (w : World) (w0 : RdZ 2 w w.heap.size a0 n0 z0) (l0 : n0 ≤ maxLen) (w10 : (Lit.int .i64 a10).wf = true) (w11 : (Lit.int .i64 a11).wf = true) (w2 : IsRow .i64 w a2 n2 c2 z2) :
    Calls Try.prog 5 #[.slice a0 n0 c0, .agg #[.int .i64 a10, .int .i64 a11], .slice a2 n2 c2] w fun e w' => e = .returned (.bool true) ∧ Below w.heap.size w w' := by
  by_cases hn2 : (1048576 : Int) < (n2 : Int)
  · clear w0 l0 w10 w11 w2
    go_enter Try.func5, Try.ntmps5
    go_wp2_with fail
    go_ret
    exact ⟨rfl, (Below.refl _ _).alloc (Nat.le_refl _) _⟩
  obtain ⟨q2, -, -⟩ := intc.rd_of_row w2
  by_cases hn0 : n0 ≤ 1048576
  · skip
    have hn2 : n2 ≤ 1048576 := by omega
    exact law_of a0 c0 a2 c2 z0 n0 (z2.take n2) n2 a10 a11 (sit.stV z0 n0 (z2.take n2) n2 a10 a11) ((sit.stV z0 n0 (z2.take n2) n2 a10 a11).length) (sit.stB z0 n0 (z2.take n2) n2 a10 a11) w hn0 w0 hn2 q2 (Nat.le_trans (sit.stV_length z0 n0 (z2.take n2) n2 a10 a11) hn0) (rfl)
      (fun A0 c0 A2 c2 w hc0 hc2 h0 h2 => sitt.sendTimes z0 (z2.take n2) a10 a11 A0 A2 n0 c0 n2 c2 w hn0 hn2 h0 h2)
      (fun A0 c0 A2 c2 w hc0 hc2 h0 h2 => sitj.sendTimes z0 (z2.take n2) a10 a11 A0 A2 n0 c0 n2 c2 w hc0 hn0 hn2 h0 h2)
  · have HZ0 := Lib.hid (fun w => site.sz a0 n0 c0 w l0)
    rw [if_neg hn0] at HZ0
    clear w0 l0 w10 w11 w2 q2 hn0
    go_enter Try.func5, Try.ntmps5
    go_wp2_with fail
    refine (HZ0.out _).mono ?_
    rintro e w' ⟨rfl, rfl⟩
    go_wp2_with fail
    go_ret
    exact ⟨rfl, (Below.refl _ _).alloc (Nat.le_refl _) _⟩


theorem own : ownKnob Try.prog.godebug = none := by kernel_rfl
theorem laidOut : laidOutB Try.prog = true := by kernel_rfl

set_option maxRecDepth 100000 in
theorem lifted (os : Os) (started : os.Started) (H : Type) (enc : TypeId × Value → H) :
    ReturnsInHanded {} Try.checked os 5 .any (Rows.fnExactSendTimesSpec.pre6 enc Try.prog Try.f5 Rows.fnExactSendTimesRow.domain false) (Rows.fnExactSendTimesSpec.post enc Try.prog Try.f5 false true false false) := by
  refine returnsInHanded_of_change (C := Try.checked) own started (by kernel_rfl) Try.func5
    (ChangeSpec.witness6 (enc := enc) (C := Try.checked) false ⟨#[], #[.slice none 0 0, .agg #[.int .i64 0, .int .i64 0], .slice none 0 0], []⟩ 8 (by kernel_rfl) (by kernel_rfl) (by kernel_rfl) (by kernel_rfl)) ?_
  intro W base args ds gs before hval0 hW hcnd _
  have hval : ∀ (j : Nat) t v, Try.f5.params[j]? = some t → args[j]? = some v → Value.okWide Try.prog W .any base t v := hval0
  have hW' := hW
  obtain ⟨p, q, hA0, hV, rfl, hfz, hnd⟩ := hW
  have hA : DataW.TrodAll enc Try.prog W 0 (fun _ => true) true Try.f5.params.toList args.toList ds p := hA0
  rw [Try.params5] at hA hval
  obtain ⟨v0, vs0, d0, ds0, p0, q0, hargs, rfl, rfl, h0, r0⟩ := trodAll_cons hA
  obtain ⟨v1, vs1, d1, ds1, p1, q1, rfl, rfl, rfl, h1, r1⟩ := trodAll_cons r0
  obtain ⟨v2, vs2, d2, ds2, p2, q2, rfl, rfl, rfl, h2, r2⟩ := trodAll_cons r1
  obtain ⟨rfl, rfl, rfl⟩ := trodAll_nil r2
  obtain rfl : args = #[v0, v1, v2] := by cases args; simp_all
  obtain ⟨rfl, rfl⟩ := trodVars_none hV
  obtain ⟨a0, len0, cap0, rfl⟩ := okWide_slice Try.underlying22 (hval 0 22 v0 rfl rfl)
  have k0 := h0
  have lt0 : ∀ x ∈ p0, x.block < W.heap.size := by obtain ⟨m, hm⟩ := k0; exact DataW.trod_lt m _ _ _ hm
  obtain ⟨z0, w0, n0⟩ : ∃ zs, lst.RdZ 2 W W.heap.size a0 len0 zs ∧ len0 ≤ maxLen := by
    obtain ⟨fuel, hf⟩ := h0
    obtain ⟨A, n, c, zs, hcs, hrd, hle⟩ := lsto.open_structs Try.underlying22 Try.underlying30 (by kernel_rfl) (by kernel_rfl) (by decide) (by
        intro j f hg
        match j, hg with
        | 0, hg => exact (Option.some.inj hg) ▸ Try.underlying3
        | 1, hg => exact (Option.some.inj hg) ▸ Try.underlying3
        | q + 2, hg => exact absurd (Array.getElem?_eq_some_iff.1 hg).1 (by simp)) hf
    simp [Value.cells] at hcs
    obtain ⟨rfl, rfl, rfl⟩ := hcs
    exact ⟨zs, hrd, hle⟩
  have k1 := h1
  have lt1 : ∀ x ∈ p1, x.block < W.heap.size := by obtain ⟨m, hm⟩ := k1; exact DataW.trod_lt m _ _ _ hm
  obtain ⟨f10, f11, y10, y11, m1, rfl, rfl, rfl, t10, t11⟩ := open_agg2 Try.underlying30 (by kernel_rfl) (by kernel_rfl) (hval 1 30 v1 rfl rfl) h1
  obtain ⟨a10, e10, -, w10⟩ := DataW.trod_int Try.underlying3 t10
  obtain rfl : f10 = .int .i64 a10 := by simpa using e10
  obtain ⟨a11, e11, -, w11⟩ := DataW.trod_int Try.underlying3 t11
  obtain rfl : f11 = .int .i64 a11 := by simpa using e11
  obtain ⟨a2, len2, cap2, rfl⟩ := okWide_slice Try.underlying31 (hval 2 31 v2 rfl rfl)
  have k2 := h2
  have lt2 : ∀ x ∈ p2, x.block < W.heap.size := by obtain ⟨m, hm⟩ := k2; exact DataW.trod_lt m _ _ _ hm
  obtain ⟨z2, w2⟩ : ∃ zs, IsRow .i64 W a2 len2 cap2 zs := by
    obtain ⟨fuel, hf⟩ := h2
    rcases open_ints Try.underlying31 Try.underlying3 (by kernel_rfl) hf with ⟨hcs, _⟩ | ⟨x, l, c, zs, hcs, _, hl, hm, hz, _, hcell, hwz⟩
    · simp [Value.cells] at hcs
      obtain ⟨rfl, rfl, rfl⟩ := hcs
      exact ⟨[], .inl ⟨rfl, rfl, rfl, rfl⟩⟩
    · simp [Value.cells] at hcs
      obtain ⟨rfl, rfl, rfl⟩ := hcs
      exact ⟨zs, .inr ⟨_, rfl, hl, hm, by simpa using hz, hcell, hwz⟩⟩
  clear hA0 hval0
  refine (walk a0 len0 cap0 z0 a10 a11 a2 len2 cap2 z2 W w0 n0 w10 w11 w2).mono fun e W' ⟨he, bel⟩ => ?_
  subst he
  exact ⟨_, rfl, _, _, _, [], _, [], hW', trodAll_mk1 (shut_bool Try.underlying4 _), (trodAll_cons_mk (Below.trod laidOut (by kernel_rfl) (of_decide_eq_true (by kernel_rfl)) k0 bel lt0) (trodAll_cons_mk (Below.trod laidOut (by kernel_rfl) (of_decide_eq_true (by kernel_rfl)) k1 bel lt1) (trodAll_cons_mk (Below.trod laidOut (by kernel_rfl) (of_decide_eq_true (by kernel_rfl)) k2 bel lt2) trodAll_mk0))), rfl, bel.frame _, fun h => by cases h⟩

theorem over : Rows.fnExactSendTimesRow.holds Try.pinned (OpenSpec.ofChange Rows.fnExactSendTimesSpec) :=
  OpenClaim.holds_of_wide 5 Try.f5 rfl rfl rfl rfl rfl rfl rfl ⟨rfl, rfl, rfl, rfl, rfl⟩ rfl rfl rfl rfl rfl (by kernel_rfl) Try.func5 (by kernel_rfl)
    (of_decide_eq_true (by kernel_rfl)) (by unfold Func.isWrapper; first | (rw [if_pos (by decide +kernel)]; kernel_rfl) | (rw [if_neg (by decide +kernel)]; exact ⟨rfl, rfl⟩))
    (fun os started H enc _ => lifted os started H enc)

theorem proved : Rows.FnExactSendTimesSaid :=
  over
#print axioms proved
end Go.Proofs.Ytpbopiecfnedgaa.fnExactSendTimes
