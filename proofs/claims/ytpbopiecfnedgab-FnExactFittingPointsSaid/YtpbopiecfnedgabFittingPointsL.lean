/- For every slice of sites, every slice of ints and every int the law FnExactFittingPoints returns true: impl.FittingPoints and spec.FittingPoints return the same points that fit, in the same order, and true, or both an empty slice and false; the arguments are left as they were, the results share no memory. No condition. -/
import Derived.Test.YtpbopiecfnedgabRows
import Derived.Test.YtpbopiecfnedgabLocS
import Derived.Test.YtpbopiecfnedgabLocI
import Derived.Test.YtpbopiecfnedgabIntC
import Derived.Test.YtpbopiecfnedgabLstO
import Derived.Test.YtpbopiecfnedgabSitE
import Derived.WalkKit
import Derived.ProofKit
import Derived.OpenShut
import Derived.ShutString
import Derived.ChangeOld
import Derived.Below
import Derived.Lib.SmallJoins
import Derived.Lib.QuietBelow
import Derived.Deep.RegionHeld3
import Derived.Deep.CutRange
namespace Go.Proofs.Ytpbopiecfnedgab.fnExactFittingPoints
open Go.ChangeShapes Go.WideShapes Go.ChangeAt Go.RowKit Go.Joins Go.Proofs.Ytpbopiecfnedgab.ats Go.Proofs.Ytpbopiecfnedgab.ints Go.Proofs.Ytpbopiecfnedgab.lst Go.Proofs.Ytpbopiecfnedgab.intc Go.Proofs.Ytpbopiecfnedgab.code_
open Go.ChangeMaps (open_string shut_string)
set_option linter.unusedVariables false

theorem bool_ne_self (b : Bool) : (b != b) = false := by simp
theorem int_ne_self (x : Int) : (x != x) = false := by simp

/-- The function f returns this. -/
def Gives (f : Nat) (z0 : List Int) (n0 : Nat) (z1 : List Int) (n1 : Nat) (a2 : Int) (V : List Int) (N : Nat) (O0 : Bool) : Prop := ∀ (A0 : Option Addr) (c0 : Nat) (A1 : Option Addr) (c1 : Nat) (w : World), n0 ≤ c0 → n1 ≤ c1 → RdZ 2 w w.heap.size A0 n0 z0 → RdI w w.heap.size A1 n1 z1 → 
  Calls Try.prog f #[.slice A0 n0 c0, .slice A1 n1 c1, .int .i64 a2] w fun e w' => ∃ v, e = .returned (.tuple #[v, .bool O0]) ∧ w'.ownsRow w.heap.size 32 2 v N (cellsI V) ∧ Below w.heap.size w w'

set_option maxRecDepth 100000 in
set_option maxHeartbeats 8000000 in
theorem law_of (a0 : Option Addr) (c0 : Nat) (a1 : Option Addr) (c1 : Nat) (z0 : List Int) (n0 : Nat) (z1 : List Int) (n1 : Nat) (a2 : Int) (V : List Int) (N : Nat) (O0 : Bool) (w : World) (hn0 : n0 ≤ 1048576) (hr0 : RdZ 2 w w.heap.size a0 n0 z0) (hn1 : n1 ≤ 1048576) (hr1 : RdI w w.heap.size a1 n1 z1) (hN : N ≤ 1048576) (hV : V.length = N * 2)
    (hs : Gives 22 z0 n0 z1 n1 a2 V N O0) (hi : Gives 23 z0 n0 z1 n1 a2 V N O0) :
    Calls Try.prog 4 #[.slice a0 n0 c0, .slice a1 n1 c1, .int .i64 a2] w fun e w' => e = .returned (.bool true) ∧ Below w.heap.size w w' := by
  have HZ0 := Lib.hid (fun w => site.sz a0 n0 c0 w (by unfold maxLen; omega))
  rw [if_pos hn0] at HZ0
  have d0 : decide ((1048576 : Int) - (n0 : Int) < 0) = false := decide_eq_false (by omega)
  have HC0 := Lib.hid (fun (w' : World) (hb : Below w.heap.size w w') => site.copyS z0 a0 n0 c0 w' hn0 (hr0.next hb))
  have HL0 := Lib.hid hr0.1
  have d1 : ¬ (1048576 : Int) < (n1 : Int) := by omega
  have HC1 := Lib.hid (fun (w' : World) (hb : Below w.heap.size w w') => intc.copyI z1 a1 n1 c1 w' hn1 (hr1.next hb))
  have HL1 := Lib.hid hr1.1
  have HS := Lib.hid (fun (A0 : Option Addr) (c0 : Nat) (A1 : Option Addr) (c1 : Nat) (w : World) (e0 : n0 ≤ c0) (e1 : n1 ≤ c1) (h0 : RdZ 2 w w.heap.size A0 n0 z0) (h1 : RdI w w.heap.size A1 n1 z1) => hs A0 c0 A1 c1 w e0 e1 h0 h1)
  have HI := Lib.hid (fun (A0 : Option Addr) (c0 : Nat) (A1 : Option Addr) (c1 : Nat) (w : World) (e0 : n0 ≤ c0) (e1 : n1 ≤ c1) (h0 : RdZ 2 w w.heap.size A0 n0 z0) (h1 : RdI w w.heap.size A1 n1 z1) => hi A0 c0 A1 c1 w e0 e1 h0 h1)
  have HV := Lib.hid hV
  have HNN := Lib.hid hN
  have ne0 := bool_ne_self O0
  clear hs hi hr0 hr1 hV
  go_enter Try.func4, Try.ntmps4
  go_wp2_with fail
  refine (HZ0.out w).mono ?_
  rintro e w' ⟨rfl, rfl⟩
  have AN1 := Lib.hid (Below.refl w.heap.size w)
  go_wp2_with fail
  refine (HC0.out w AN1.out).mono ?_
  rintro e V2 ⟨g5, rfl, ho4, h3⟩
  have AN6 := Lib.hid (AN1.out.trans (h3.mono AN1.out.size))
  clear AN1
  have rd7 := Lib.hid (RdZ.of_own ho4 HL0.out)
  clear h3 ho4
  go_wp2_with fail
  refine (HC1.out V2 AN6.out).mono ?_
  rintro e V8 ⟨g11, rfl, ho10, h9⟩
  have AN12 := Lib.hid (AN6.out.trans (h9.mono AN6.out.size))
  clear AN6
  have rd13 := Lib.hid (rd7.out.next h9)
  clear rd7
  have rd14 := Lib.hid (intc.rd_of_own ho10 HL1.out)
  clear h9 ho10
  go_wp2_with fail
  refine (HS.out _ _ _ _ V8 (Nat.le_refl _) (Nat.le_refl _) rd13.out rd14.out).mono ?_
  rintro e V15 ⟨vW, rfl, ho17, h16⟩
  obtain ⟨AW, cW, rfl⟩ := own_sliceZ ho17
  clear rd13 rd14
  have AN18 := Lib.hid (AN12.out.trans (h16.mono AN12.out.size))
  clear AN12
  clear h16
  have RW := Lib.hid (RdZ.of_own ho17 HV.out)
  clear ho17
  have AN19 := Lib.hid (Below.refl V15.heap.size V15)
  go_wp2_with fail
  refine (HC0.out V15 AN18.out).mono ?_
  rintro e V20 ⟨g23, rfl, ho22, h21⟩
  have LE24 := Lib.hid AN18.out.size
  have LE25 := Lib.hid AN19.out.size
  have AN26 := Lib.hid (AN18.out.trans (h21.mono AN18.out.size))
  clear AN18
  have AN27 := Lib.hid (AN19.out.trans (h21.mono AN19.out.size))
  clear AN19
  have rd28 := Lib.hid (RdZ.of_own ho22 HL0.out)
  have OW29 := Lib.hid ho22
  have LT30 := Lib.hid (own_row_lt ho22)
  have AN31 := Lib.hid (Below.refl V20.heap.size V20)
  clear h21 ho22
  go_wp2_with fail
  refine (HC1.out V20 AN26.out).mono ?_
  rintro e V32 ⟨g35, rfl, ho34, h33⟩
  have LE36 := Lib.hid AN26.out.size
  have LE37 := Lib.hid AN27.out.size
  have LE38 := Lib.hid AN31.out.size
  have AN39 := Lib.hid (AN26.out.trans (h33.mono AN26.out.size))
  clear AN26
  have AN40 := Lib.hid (AN27.out.trans (h33.mono AN27.out.size))
  clear AN27
  have AN41 := Lib.hid (AN31.out.trans (h33.mono AN31.out.size))
  clear AN31
  have OW42 := Lib.hid (own_.own_below OW29.out h33)
  clear OW29
  have rd43 := Lib.hid (intc.rd_of_own ho34 HL1.out)
  have OW44 := Lib.hid ho34
  have LT45 := Lib.hid (own_row_lt ho34)
  have AN46 := Lib.hid (Below.refl V32.heap.size V32)
  clear h33 ho34
  have rd47 := Lib.hid (RdZ.of_own OW42.out HL0.out)
  have rd48 := Lib.hid (intc.rd_of_own OW44.out HL1.out)
  have LE49 := Lib.hid AN39.out.size
  have LE50 := Lib.hid AN40.out.size
  have LE51 := Lib.hid AN41.out.size
  have LE52 := Lib.hid AN46.out.size
  go_wp2_with fail
  refine (HI.out _ _ _ _ V32 (Nat.le_refl _) (Nat.le_refl _) rd47.out rd48.out).mono ?_
  rintro e V53 ⟨vG, rfl, ho55, h54⟩
  obtain ⟨AG, cG, rfl⟩ := own_sliceZ ho55
  clear rd47 rd48
  have AN56 := Lib.hid (AN39.out.trans (h54.mono AN39.out.size))
  clear AN39
  have AN57 := Lib.hid (AN40.out.trans (h54.mono AN40.out.size))
  clear AN40
  have AN58 := Lib.hid (AN41.out.trans (h54.mono AN41.out.size))
  clear AN41
  have AN59 := Lib.hid (AN46.out.trans (h54.mono AN46.out.size))
  clear AN46
  have OW60 := Lib.hid (own_.own_below OW42.out h54)
  clear OW42
  have OW61 := Lib.hid (own_.own_below OW44.out h54)
  clear OW44
  clear h54
  clear AN58
  clear AN59
  have OW62 := Lib.hid ho55
  have LT63 := Lib.hid (own_row_lt ho55)
  clear ho55
  have E64 := Lib.hid (site.eqS V AG AW N cG cW V53 (by have := HNN.out; omega) (RdZ.of_own OW62.out HV.out) (RW.out.next AN57.out))
  go_wp2_with fail
  refine E64.out.mono ?_
  rintro e V65 ⟨rfl, h66⟩
  clear E64
  have AN67 := Lib.hid (AN56.out.trans (h66.mono AN56.out.size))
  clear AN56
  have AN68 := Lib.hid (AN57.out.trans (h66.mono AN57.out.size))
  clear AN57
  have OW69 := Lib.hid (own_.own_below OW60.out h66)
  clear OW60
  have OW70 := Lib.hid (own_.own_below OW61.out h66)
  clear OW61
  have OW71 := Lib.hid (own_.own_below OW62.out h66)
  clear OW62
  clear h66
  go_wp2_with fail
  refine (HC0.out V65 AN67.out).mono ?_
  rintro e V72 ⟨g75, rfl, ho74, h73⟩
  have AN76 := Lib.hid (AN67.out.trans (h73.mono AN67.out.size))
  clear AN67
  have AN77 := Lib.hid (AN68.out.trans (h73.mono AN68.out.size))
  clear AN68
  have OW78 := Lib.hid (own_.own_below OW69.out h73)
  clear OW69
  have OW79 := Lib.hid (own_.own_below OW70.out h73)
  clear OW70
  have OW80 := Lib.hid (own_.own_below OW71.out h73)
  clear OW71
  have rd81 := Lib.hid (RdZ.of_own ho74 HL0.out)
  clear h73 ho74
  have E82 := Lib.hid (site.eqS z0 _ _ n0 n0 n0 V72 (by omega) (RdZ.of_own OW78.out HL0.out) rd81.out)
  clear rd81
  go_wp2_with fail
  refine E82.out.mono ?_
  rintro e V83 ⟨rfl, h84⟩
  clear E82
  have AN85 := Lib.hid (AN76.out.trans (h84.mono AN76.out.size))
  clear AN76
  have AN86 := Lib.hid (AN77.out.trans (h84.mono AN77.out.size))
  clear AN77
  have OW87 := Lib.hid (own_.own_below OW78.out h84)
  clear OW78
  have OW88 := Lib.hid (own_.own_below OW79.out h84)
  clear OW79
  have OW89 := Lib.hid (own_.own_below OW80.out h84)
  clear OW80
  clear h84
  go_wp2_with fail
  refine (HC1.out V83 AN85.out).mono ?_
  rintro e V90 ⟨g93, rfl, ho92, h91⟩
  have AN94 := Lib.hid (AN85.out.trans (h91.mono AN85.out.size))
  clear AN85
  have AN95 := Lib.hid (AN86.out.trans (h91.mono AN86.out.size))
  clear AN86
  have OW96 := Lib.hid (own_.own_below OW87.out h91)
  clear OW87
  have OW97 := Lib.hid (own_.own_below OW88.out h91)
  clear OW88
  have OW98 := Lib.hid (own_.own_below OW89.out h91)
  clear OW89
  have rd99 := Lib.hid (intc.rd_of_own ho92 HL1.out)
  clear h91 ho92
  have E100 := Lib.hid (ints.eq_same z1 _ _ n1 n1 n1 V90 (by omega) (intc.rd_of_own OW97.out HL1.out) rd99.out)
  clear rd99
  go_wp2_with fail
  refine E100.out.mono ?_
  rintro e wx ⟨rfl, j101, rfl⟩
  clear E100
  have AN103 := Lib.hid (aid.below_drewN AN94.out j101)
  clear AN94
  have AN104 := Lib.hid (aid.below_drewN AN95.out j101)
  clear AN95
  have OW105 := Lib.hid (own_.own_drewN OW96.out j101)
  clear OW96
  have OW106 := Lib.hid (own_.own_drewN OW97.out j101)
  clear OW97
  have OW107 := Lib.hid (own_.own_drewN OW98.out j101)
  clear OW98
  generalize V90.drewN j101 = V102 at *
  go_wp2_with fail
  refine (site.markS V15.heap.size (some ⟨g23, 0, none⟩) 1 n0 n0 _ V102 (by have := HNN.out; omega) OW105.out).mono ?_
  rintro e V108 ⟨rfl, h109, hg110, ho111⟩
  have AN112 := Lib.hid (AN103.out.trans (h109.mono LE24.out))
  clear AN103
  have AN113 := Lib.hid (AN104.out.trans (h109.mono LE25.out))
  clear AN104
  have OW114 := Lib.hid (own_kept OW106.out hg110 (fun q hq => Nat.lt_of_lt_of_le (LT30.out q hq) LE38.out))
  clear OW106
  have OW115 := Lib.hid (own_kept OW107.out hg110 (fun q hq => Nat.lt_of_lt_of_le (LT30.out q hq) LE51.out))
  clear OW107
  clear OW105 h109 hg110
  clear ho111
  go_wp2_with fail
  refine (intc.markI V20.heap.size (some ⟨g35, 0, none⟩) (1 + n0 * 2) n1 n1 _ V108 (by have := HNN.out; omega) OW114.out).mono ?_
  rintro e V116 ⟨rfl, h117, hg118, ho119⟩
  have AN120 := Lib.hid (AN112.out.trans (h117.mono LE36.out))
  clear AN112
  have AN121 := Lib.hid (AN113.out.trans (h117.mono LE37.out))
  clear AN113
  have OW122 := Lib.hid (own_kept OW115.out hg118 (fun q hq => Nat.lt_of_lt_of_le (LT45.out q hq) LE52.out))
  clear OW115
  clear OW114 h117 hg118
  clear ho119
  have KN : decide ((((1 + n0 * 2) + n1 : Nat) : Int) < 0) = false := decide_eq_false (by omega)
  generalize (((1 + n0 * 2) + n1 : Nat) : Int) = KK at *
  have E123 := Lib.hid (site.eqS V AG AW N cG cW V116 (by have := HNN.out; omega) (RdZ.of_own OW122.out HV.out) (RW.out.next AN121.out))
  go_wp2_with fail
  refine E123.out.mono ?_
  rintro e V124 ⟨rfl, h125⟩
  clear E123
  have AN126 := Lib.hid (AN120.out.trans (h125.mono AN120.out.size))
  clear AN120
  have AN127 := Lib.hid (AN121.out.trans (h125.mono AN121.out.size))
  clear AN121
  have OW128 := Lib.hid (own_.own_below OW122.out h125)
  clear OW122
  clear h125
  clear KN
  go_wp2_with fail
  refine (site.markS V32.heap.size AG 1 N cG _ V124 (by have := HNN.out; omega) OW128.out).mono ?_
  rintro e V129 ⟨rfl, h130, hg131, ho132⟩
  have AN133 := Lib.hid (AN126.out.trans (h130.mono LE49.out))
  clear AN126
  have AN134 := Lib.hid (AN127.out.trans (h130.mono LE50.out))
  clear AN127
  clear OW128 h130 hg131
  have MG := Lib.hid (RdZ.of_own ho132 (marksI_length 1 (N * 2)))
  clear ho132
  have AN135 := Lib.hid (Below.refl V129.heap.size V129)
  have K5 : decide (((1 + N * 2 : Nat) : Int) < 0) = false := decide_eq_false (by omega)
  have K6 : (((1 + N * 2 : Nat) : Int) != ((1 + N * 2 : Nat) : Int)) = false := int_ne_self _
  have HH := Lib.hid (fun (W : World) h => site.heldS AG 1 N cG W (by have := HNN.out; omega) (h))
  generalize ((1 + N * 2 : Nat) : Int) = K at *
  go_wp2_with fail
  refine (HH.out V129 (MG.out.next AN135.out)).mono ?_
  rintro e w' ⟨rfl, rfl⟩
  go_wp2_with fail
  refine (HC0.out V129 AN133.out).mono ?_
  rintro e V136 ⟨g139, rfl, ho138, h137⟩
  have AN140 := Lib.hid (AN133.out.trans (h137.mono AN133.out.size))
  clear AN133
  have AN141 := Lib.hid (AN134.out.trans (h137.mono AN134.out.size))
  clear AN134
  have AN142 := Lib.hid (AN135.out.trans (h137.mono AN135.out.size))
  clear AN135
  have rd143 := Lib.hid (RdZ.of_own ho138 HL0.out)
  clear h137 ho138
  go_wp2_with fail
  refine (HC1.out V136 AN140.out).mono ?_
  rintro e V144 ⟨g147, rfl, ho146, h145⟩
  have AN148 := Lib.hid (AN140.out.trans (h145.mono AN140.out.size))
  clear AN140
  have AN149 := Lib.hid (AN141.out.trans (h145.mono AN141.out.size))
  clear AN141
  have AN150 := Lib.hid (AN142.out.trans (h145.mono AN142.out.size))
  clear AN142
  have rd151 := Lib.hid (rd143.out.next h145)
  clear rd143
  have rd152 := Lib.hid (intc.rd_of_own ho146 HL1.out)
  clear h145 ho146
  go_wp2_with fail
  refine (HI.out _ _ _ _ V144 (Nat.le_refl _) (Nat.le_refl _) rd151.out rd152.out).mono ?_
  rintro e V153 ⟨vH, rfl, ho155, h154⟩
  obtain ⟨AH, cH, rfl⟩ := own_sliceZ ho155
  clear rd151 rd152
  have AN156 := Lib.hid (AN148.out.trans (h154.mono AN148.out.size))
  clear AN148
  have AN157 := Lib.hid (AN149.out.trans (h154.mono AN149.out.size))
  clear AN149
  have AN158 := Lib.hid (AN150.out.trans (h154.mono AN150.out.size))
  clear AN150
  clear h154
  have rd159 := RdZ.of_own ho155 HV.out
  have E160 := Lib.hid (site.eqS V AH AW N cH cW V153 (by have := HNN.out; omega) (rd159) (RW.out.next AN157.out))
  go_wp2_with fail
  refine E160.out.mono ?_
  rintro e V161 ⟨rfl, h162⟩
  clear E160
  have AN163 := Lib.hid (AN156.out.trans (h162.mono AN156.out.size))
  clear AN156
  have AN164 := Lib.hid (AN157.out.trans (h162.mono AN157.out.size))
  clear AN157
  have AN165 := Lib.hid (AN158.out.trans (h162.mono AN158.out.size))
  clear AN158
  clear h162
  go_wp2_with fail
  refine (HH.out V161 (MG.out.next AN165.out)).mono ?_
  rintro e w' ⟨rfl, rfl⟩
  go_wp2_with fail
  go_ret
  exact ⟨rfl, AN163.out⟩

set_option maxRecDepth 100000 in
theorem walk (a0 : Option Addr) (n0 c0 : Nat) (z0 : List Int) (a1 : Option Addr) (n1 c1 : Nat) (z1 : List Int) (a2 : Int) (w : World) (w0 : RdZ 2 w w.heap.size a0 n0 z0) (l0 : n0 ≤ maxLen) (w1 : IsRow .i64 w a1 n1 c1 z1) (w2 : (Lit.int .i64 a2).wf = true) :
    Calls Try.prog 4 #[.slice a0 n0 c0, .slice a1 n1 c1, .int .i64 a2] w fun e w' => e = .returned (.bool true) ∧ Below w.heap.size w w' := by
  by_cases hn1 : (1048576 : Int) < (n1 : Int)
  · clear w0 l0 w1 w2
    go_enter Try.func4, Try.ntmps4
    go_wp2_with fail
    go_ret
    exact ⟨rfl, Below.refl _ _⟩
  obtain ⟨q1, -, -⟩ := intc.rd_of_row w1
  by_cases hn0 : n0 ≤ 1048576
  · skip
    have hn1 : n1 ≤ 1048576 := by omega
    exact law_of a0 c0 a1 c1 z0 n0 (z1.take n1) n1 a2 (loc.ftV z0 n0 (z1.take n1) n1 a2) (loc.ftN z0 n0 (z1.take n1) n1 a2) (loc.ltB z0 n0 (z1.take n1) n1 a2) w hn0 w0 hn1 q1 (Nat.le_trans (loc.ftN_le _ _ _ _ _) (by omega)) (loc.ftV_length _ _ _ _ _)
      (fun A0 c0 A1 c1 w hc0 hc1 h0 h1 => locs.fittingPoints z0 (z1.take n1) a2 A0 A1 n0 c0 n1 c1 w hn0 hn1 h0 h1)
      (fun A0 c0 A1 c1 w hc0 hc1 h0 h1 => loci.fittingPoints z0 (z1.take n1) a2 A0 A1 n0 c0 n1 c1 w hc0 hn0 hn1 h0 h1)
  · have HZ0 := Lib.hid (site.sz a0 n0 c0 w l0)
    rw [if_neg hn0] at HZ0
    clear w0 l0 w1 w2 q1 hn0
    go_enter Try.func4, Try.ntmps4
    go_wp2_with fail
    refine (HZ0.out).mono ?_
    rintro e w' ⟨rfl, rfl⟩
    go_wp2_with fail
    go_ret
    exact ⟨rfl, Below.refl _ _⟩


theorem own : ownKnob Try.prog.godebug = none := by kernel_rfl
theorem laidOut : laidOutB Try.prog = true := by kernel_rfl

set_option maxRecDepth 100000 in
theorem lifted (os : Os) (started : os.Started) (H : Type) (enc : TypeId × Value → H) :
    ReturnsInHanded {} Try.checked os 4 .any (Rows.fnExactFittingPointsSpec.pre6 enc Try.prog Try.f4 Rows.fnExactFittingPointsRow.domain false) (Rows.fnExactFittingPointsSpec.post enc Try.prog Try.f4 false true false false) := by
  refine returnsInHanded_of_change (C := Try.checked) own started (by kernel_rfl) Try.func4
    (ChangeSpec.witness6 (enc := enc) (C := Try.checked) false ⟨#[], #[.slice none 0 0, .slice none 0 0, .int .i64 0], []⟩ 8 (by kernel_rfl) (by kernel_rfl) (by kernel_rfl) (by kernel_rfl)) ?_
  intro W base args ds gs before hval0 hW hcnd _
  have hval : ∀ (j : Nat) t v, Try.f4.params[j]? = some t → args[j]? = some v → Value.okWide Try.prog W .any base t v := hval0
  have hW' := hW
  obtain ⟨p, q, hA0, hV, rfl, hfz, hnd⟩ := hW
  have hA : DataW.TrodAll enc Try.prog W 0 (fun _ => true) true Try.f4.params.toList args.toList ds p := hA0
  rw [Try.params4] at hA hval
  obtain ⟨v0, vs0, d0, ds0, p0, q0, hargs, rfl, rfl, h0, r0⟩ := trodAll_cons hA
  obtain ⟨v1, vs1, d1, ds1, p1, q1, rfl, rfl, rfl, h1, r1⟩ := trodAll_cons r0
  obtain ⟨v2, vs2, d2, ds2, p2, q2, rfl, rfl, rfl, h2, r2⟩ := trodAll_cons r1
  obtain ⟨rfl, rfl, rfl⟩ := trodAll_nil r2
  obtain rfl : args = #[v0, v1, v2] := by cases args; simp_all
  obtain ⟨rfl, rfl⟩ := trodVars_none hV
  obtain ⟨a0, len0, cap0, rfl⟩ := okWide_slice Try.underlying22 (hval 0 22 v0 rfl rfl)
  have k0 := h0
  have lt0 : ∀ x ∈ p0, x.block < W.heap.size := by obtain ⟨m, hm⟩ := k0; exact DataW.trod_lt m _ _ _ hm
  obtain ⟨z0, w0, n0⟩ : ∃ zs, lst.RdZ 2 W W.heap.size a0 len0 zs ∧ len0 ≤ maxLen := by
    obtain ⟨fuel, hf⟩ := h0
    obtain ⟨A, n, c, zs, hcs, hrd, hle⟩ := lsto.open_structs Try.underlying22 Try.underlying25 (by kernel_rfl) (by kernel_rfl) (by decide) (by
        intro j f hg
        match j, hg with
        | 0, hg => exact (Option.some.inj hg) ▸ Try.underlying3
        | 1, hg => exact (Option.some.inj hg) ▸ Try.underlying3
        | q + 2, hg => exact absurd (Array.getElem?_eq_some_iff.1 hg).1 (by simp)) hf
    simp [Value.cells] at hcs
    obtain ⟨rfl, rfl, rfl⟩ := hcs
    exact ⟨zs, hrd, hle⟩
  obtain ⟨a1, len1, cap1, rfl⟩ := okWide_slice Try.underlying23 (hval 1 23 v1 rfl rfl)
  have k1 := h1
  have lt1 : ∀ x ∈ p1, x.block < W.heap.size := by obtain ⟨m, hm⟩ := k1; exact DataW.trod_lt m _ _ _ hm
  obtain ⟨z1, w1⟩ : ∃ zs, IsRow .i64 W a1 len1 cap1 zs := by
    obtain ⟨fuel, hf⟩ := h1
    rcases open_ints Try.underlying23 Try.underlying3 (by kernel_rfl) hf with ⟨hcs, _⟩ | ⟨x, l, c, zs, hcs, _, hl, hm, hz, _, hcell, hwz⟩
    · simp [Value.cells] at hcs
      obtain ⟨rfl, rfl, rfl⟩ := hcs
      exact ⟨[], .inl ⟨rfl, rfl, rfl, rfl⟩⟩
    · simp [Value.cells] at hcs
      obtain ⟨rfl, rfl, rfl⟩ := hcs
      exact ⟨zs, .inr ⟨_, rfl, hl, hm, by simpa using hz, hcell, hwz⟩⟩
  obtain ⟨a2, rfl, rfl, rfl, w2⟩ := open_int Try.underlying3 (hval 2 3 v2 rfl rfl) h2
  clear hA0 hval0
  refine (walk a0 len0 cap0 z0 a1 len1 cap1 z1 a2 W w0 n0 w1 w2).mono fun e W' ⟨he, bel⟩ => ?_
  subst he
  exact ⟨_, rfl, _, _, _, [], _, [], hW', trodAll_mk1 (shut_bool Try.underlying4 _), (trodAll_cons_mk (Below.trod laidOut (by kernel_rfl) (of_decide_eq_true (by kernel_rfl)) k0 bel lt0) (trodAll_cons_mk (Below.trod laidOut (by kernel_rfl) (of_decide_eq_true (by kernel_rfl)) k1 bel lt1) (trodAll_cons_mk (shut_int Try.underlying3 w2) trodAll_mk0))), rfl, bel.frame _, fun h => by cases h⟩

theorem over : Rows.fnExactFittingPointsRow.holds Try.pinned (OpenSpec.ofChange Rows.fnExactFittingPointsSpec) :=
  OpenClaim.holds_of_wide 4 Try.f4 rfl rfl rfl rfl rfl rfl rfl ⟨rfl, rfl, rfl, rfl, rfl⟩ rfl rfl rfl rfl rfl (by kernel_rfl) Try.func4 (by kernel_rfl)
    (of_decide_eq_true (by kernel_rfl)) (by unfold Func.isWrapper; first | (rw [if_pos (by decide +kernel)]; kernel_rfl) | (rw [if_neg (by decide +kernel)]; exact ⟨rfl, rfl⟩))
    (fun os started H enc _ => lifted os started H enc)

theorem proved : Rows.FnExactFittingPointsSaid :=
  over
#print axioms proved
end Go.Proofs.Ytpbopiecfnedgab.fnExactFittingPoints
