/- For every slice of tracks, every slice of places and all other arguments the law FnExactBestAssignment returns true: impl.BestAssignment and spec.BestAssignment return the same pairs, cost and true, or both an empty slice, 0 and false; the arguments are left as they were, the results share no memory. No condition. -/
import Derived.Test.YtedocpocfpopgaaRows
import Derived.Test.YtedocpocfpopgaaAsgI
import Derived.Test.YtedocpocfpopgaaAsgY
import Derived.Test.YtedocpocfpopgaaIntC
import Derived.Test.YtedocpocfpopgaaLstO
import Derived.Test.YtedocpocfpopgaaTrkE
import Derived.WalkKit
import Derived.ProofKit
import Derived.OpenShut
import Derived.ShutString
import Derived.ChangeOld
import Derived.Below
import Derived.Lib.SmallJoins
import Derived.Lib.QuietBelow
import Derived.Deep.RegionHeld3
import Derived.Deep.CutRange
namespace Go.Proofs.Ytedocpocfpopgaa.fnExactBestAssignment
open Go.ChangeShapes Go.WideShapes Go.ChangeAt Go.RowKit Go.Joins Go.Proofs.Ytedocpocfpopgaa.ats Go.Proofs.Ytedocpocfpopgaa.ints Go.Proofs.Ytedocpocfpopgaa.lst Go.Proofs.Ytedocpocfpopgaa.intc Go.Proofs.Ytedocpocfpopgaa.code_
open Go.ChangeMaps (open_string shut_string)
set_option linter.unusedVariables false

theorem bool_ne_self (b : Bool) : (b != b) = false := by simp
theorem int_ne_self (x : Int) : (x != x) = false := by simp

/-- The function f returns this. -/
def Gives (f : Nat) (z0 : List Int) (n0 : Nat) (z1 : List Int) (n1 : Nat) (a2 : Int) (V : List Int) (N : Nat) (O0 : Int) (O1 : Bool) : Prop := ∀ (A0 : Option Addr) (c0 : Nat) (A1 : Option Addr) (c1 : Nat) (w : World), n0 ≤ c0 → n1 ≤ c1 → RdZ 6 w w.heap.size A0 n0 z0 → RdZ 2 w w.heap.size A1 n1 z1 → 
  Calls Try.prog f #[.slice A0 n0 c0, .slice A1 n1 c1, .int .i64 a2] w fun e w' => ∃ v, e = .returned (.tuple #[v, .int .i64 O0, .bool O1]) ∧ w'.ownsRow w.heap.size 3 1 v N (cellsI V) ∧ Below w.heap.size w w'

set_option maxRecDepth 100000 in
set_option maxHeartbeats 8000000 in
theorem law_of (a0 : Option Addr) (c0 : Nat) (a1 : Option Addr) (c1 : Nat) (z0 : List Int) (n0 : Nat) (z1 : List Int) (n1 : Nat) (a2 : Int) (V : List Int) (N : Nat) (O0 : Int) (O1 : Bool) (w : World) (hn0 : n0 ≤ 1048576) (hr0 : RdZ 6 w w.heap.size a0 n0 z0) (hn1 : n1 ≤ 1048576) (hr1 : RdZ 2 w w.heap.size a1 n1 z1) (hN : N ≤ 1048576) (hV : V.length = N) (hsum : n0 + n1 ≤ 1048576)
    (hs : Gives 27 z0 n0 z1 n1 a2 V N O0 O1) (hi : Gives 28 z0 n0 z1 n1 a2 V N O0 O1) :
    Calls Try.prog 6 #[.slice a0 n0 c0, .slice a1 n1 c1, .int .i64 a2] w fun e w' => e = .returned (.bool true) ∧ Below w.heap.size w w' := by
  have HZ0 := Lib.hid (fun w => trke.sz a0 n0 c0 w (by unfold maxLen; omega))
  rw [if_pos hn0] at HZ0
  have d0 : decide ((1048576 : Int) - (n0 : Int) < 0) = false := decide_eq_false (by omega)
  have HC0 := Lib.hid (fun (w' : World) (hb : Below w.heap.size w w') => trke.copyS z0 a0 n0 c0 w' hn0 (hr0.next hb))
  have HL0 := Lib.hid hr0.1
  have HZ1 := Lib.hid (fun w => plce.szL a1 n1 c1 (1048576 - (n0 : Int)) w (by unfold maxLen; omega) (by omega) (by omega))
  rw [if_pos (by omega)] at HZ1
  have d1 : decide ((1048576 : Int) - (n0 : Int) - (n1 : Int) < 0) = false := decide_eq_false (by omega)
  have HC1 := Lib.hid (fun (w' : World) (hb : Below w.heap.size w w') => plce.copyS z1 a1 n1 c1 w' hn1 (hr1.next hb))
  have HL1 := Lib.hid hr1.1
  have HS := Lib.hid (fun (A0 : Option Addr) (c0 : Nat) (A1 : Option Addr) (c1 : Nat) (w : World) (e0 : n0 ≤ c0) (e1 : n1 ≤ c1) (h0 : RdZ 6 w w.heap.size A0 n0 z0) (h1 : RdZ 2 w w.heap.size A1 n1 z1) => hs A0 c0 A1 c1 w e0 e1 h0 h1)
  have HI := Lib.hid (fun (A0 : Option Addr) (c0 : Nat) (A1 : Option Addr) (c1 : Nat) (w : World) (e0 : n0 ≤ c0) (e1 : n1 ≤ c1) (h0 : RdZ 6 w w.heap.size A0 n0 z0) (h1 : RdZ 2 w w.heap.size A1 n1 z1) => hi A0 c0 A1 c1 w e0 e1 h0 h1)
  have HV := Lib.hid hV
  have HNN := Lib.hid hN
  have ne0 := int_ne_self O0
  have ne1 := bool_ne_self O1
  clear hs hi hr0 hr1 hV
  go_enter Try.func6, Try.ntmps6
  go_wp2_with fail
  refine (HZ0.out w).mono ?_
  rintro e w' ⟨rfl, rfl⟩
  go_wp2_with fail
  refine (HZ1.out w).mono ?_
  rintro e w' ⟨rfl, rfl⟩
  have AN1 := Lib.hid (Below.refl w.heap.size w)
  go_wp2_with fail
  refine (HC0.out w AN1.out).mono ?_
  rintro e V2 ⟨g5, rfl, ho4, h3⟩
  have AN6 := Lib.hid (AN1.out.trans (h3.mono AN1.out.size))
  clear AN1
  have rd7 := Lib.hid (RdZ.of_own ho4 HL0.out)
  clear h3 ho4
  go_wp2_with fail
  refine (HC1.out V2 AN6.out).mono ?_
  rintro e V8 ⟨g11, rfl, ho10, h9⟩
  have AN12 := Lib.hid (AN6.out.trans (h9.mono AN6.out.size))
  clear AN6
  have rd13 := Lib.hid (rd7.out.next h9)
  clear rd7
  have rd14 := Lib.hid (RdZ.of_own ho10 HL1.out)
  clear h9 ho10
  go_wp2_with fail
  refine (HS.out _ _ _ _ V8 (Nat.le_refl _) (Nat.le_refl _) rd13.out rd14.out).mono ?_
  rintro e V15 ⟨vW, rfl, ho17, h16⟩
  obtain ⟨AW, cW, rfl⟩ := own_sliceZ ho17
  clear rd13 rd14
  have AN18 := Lib.hid (AN12.out.trans (h16.mono AN12.out.size))
  clear AN12
  clear h16
  have RW := Lib.hid (intc.rd_of_own ho17 HV.out)
  clear ho17
  have AN19 := Lib.hid (Below.refl V15.heap.size V15)
  go_wp2_with fail
  refine (HC0.out V15 AN18.out).mono ?_
  rintro e V20 ⟨g23, rfl, ho22, h21⟩
  have LE24 := Lib.hid AN18.out.size
  have LE25 := Lib.hid AN19.out.size
  have AN26 := Lib.hid (AN18.out.trans (h21.mono AN18.out.size))
  clear AN18
  have AN27 := Lib.hid (AN19.out.trans (h21.mono AN19.out.size))
  clear AN19
  have rd28 := Lib.hid (RdZ.of_own ho22 HL0.out)
  have OW29 := Lib.hid ho22
  have LT30 := Lib.hid (own_row_lt ho22)
  have AN31 := Lib.hid (Below.refl V20.heap.size V20)
  clear h21 ho22
  go_wp2_with fail
  refine (HC1.out V20 AN26.out).mono ?_
  rintro e V32 ⟨g35, rfl, ho34, h33⟩
  have LE36 := Lib.hid AN26.out.size
  have LE37 := Lib.hid AN27.out.size
  have LE38 := Lib.hid AN31.out.size
  have AN39 := Lib.hid (AN26.out.trans (h33.mono AN26.out.size))
  clear AN26
  have AN40 := Lib.hid (AN27.out.trans (h33.mono AN27.out.size))
  clear AN27
  have AN41 := Lib.hid (AN31.out.trans (h33.mono AN31.out.size))
  clear AN31
  have OW42 := Lib.hid (own_.own_below OW29.out h33)
  clear OW29
  have rd43 := Lib.hid (RdZ.of_own ho34 HL1.out)
  have OW44 := Lib.hid ho34
  have LT45 := Lib.hid (own_row_lt ho34)
  have AN46 := Lib.hid (Below.refl V32.heap.size V32)
  clear h33 ho34
  have rd47 := Lib.hid (RdZ.of_own OW42.out HL0.out)
  have rd48 := Lib.hid (RdZ.of_own OW44.out HL1.out)
  have LE49 := Lib.hid AN39.out.size
  have LE50 := Lib.hid AN40.out.size
  have LE51 := Lib.hid AN41.out.size
  have LE52 := Lib.hid AN46.out.size
  go_wp2_with fail
  refine (HI.out _ _ _ _ V32 (Nat.le_refl _) (Nat.le_refl _) rd47.out rd48.out).mono ?_
  rintro e V53 ⟨vG, rfl, ho55, h54⟩
  obtain ⟨AG, cG, rfl⟩ := own_sliceZ ho55
  clear rd47 rd48
  have AN56 := Lib.hid (AN39.out.trans (h54.mono AN39.out.size))
  clear AN39
  have AN57 := Lib.hid (AN40.out.trans (h54.mono AN40.out.size))
  clear AN40
  have AN58 := Lib.hid (AN41.out.trans (h54.mono AN41.out.size))
  clear AN41
  have AN59 := Lib.hid (AN46.out.trans (h54.mono AN46.out.size))
  clear AN46
  have OW60 := Lib.hid (own_.own_below OW42.out h54)
  clear OW42
  have OW61 := Lib.hid (own_.own_below OW44.out h54)
  clear OW44
  clear h54
  clear AN58
  clear AN59
  have OW62 := Lib.hid ho55
  have LT63 := Lib.hid (own_row_lt ho55)
  clear ho55
  have E64 := Lib.hid (ints.eq_same V AG AW N cG cW V53 (by have := HNN.out; omega) (intc.rd_of_own OW62.out HV.out) (RW.out.next AN57.out))
  go_wp2_with fail
  refine E64.out.mono ?_
  rintro e wx ⟨rfl, j65, rfl⟩
  clear E64
  have AN67 := Lib.hid (aid.below_drewN AN56.out j65)
  clear AN56
  have AN68 := Lib.hid (aid.below_drewN AN57.out j65)
  clear AN57
  have OW69 := Lib.hid (own_.own_drewN OW60.out j65)
  clear OW60
  have OW70 := Lib.hid (own_.own_drewN OW61.out j65)
  clear OW61
  have OW71 := Lib.hid (own_.own_drewN OW62.out j65)
  clear OW62
  generalize V53.drewN j65 = V66 at *
  go_wp2_with fail
  refine (HC0.out V66 AN67.out).mono ?_
  rintro e V72 ⟨g75, rfl, ho74, h73⟩
  have AN76 := Lib.hid (AN67.out.trans (h73.mono AN67.out.size))
  clear AN67
  have AN77 := Lib.hid (AN68.out.trans (h73.mono AN68.out.size))
  clear AN68
  have OW78 := Lib.hid (own_.own_below OW69.out h73)
  clear OW69
  have OW79 := Lib.hid (own_.own_below OW70.out h73)
  clear OW70
  have OW80 := Lib.hid (own_.own_below OW71.out h73)
  clear OW71
  have rd81 := Lib.hid (RdZ.of_own ho74 HL0.out)
  clear h73 ho74
  have E82 := Lib.hid (trke.eqS z0 _ _ n0 n0 n0 V72 (by omega) (RdZ.of_own OW78.out HL0.out) rd81.out)
  clear rd81
  go_wp2_with fail
  refine E82.out.mono ?_
  rintro e V83 ⟨rfl, h84⟩
  clear E82
  have AN85 := Lib.hid (AN76.out.trans (h84.mono AN76.out.size))
  clear AN76
  have AN86 := Lib.hid (AN77.out.trans (h84.mono AN77.out.size))
  clear AN77
  have OW87 := Lib.hid (own_.own_below OW78.out h84)
  clear OW78
  have OW88 := Lib.hid (own_.own_below OW79.out h84)
  clear OW79
  have OW89 := Lib.hid (own_.own_below OW80.out h84)
  clear OW80
  clear h84
  go_wp2_with fail
  refine (HC1.out V83 AN85.out).mono ?_
  rintro e V90 ⟨g93, rfl, ho92, h91⟩
  have AN94 := Lib.hid (AN85.out.trans (h91.mono AN85.out.size))
  clear AN85
  have AN95 := Lib.hid (AN86.out.trans (h91.mono AN86.out.size))
  clear AN86
  have OW96 := Lib.hid (own_.own_below OW87.out h91)
  clear OW87
  have OW97 := Lib.hid (own_.own_below OW88.out h91)
  clear OW88
  have OW98 := Lib.hid (own_.own_below OW89.out h91)
  clear OW89
  have rd99 := Lib.hid (RdZ.of_own ho92 HL1.out)
  clear h91 ho92
  have E100 := Lib.hid (plce.eqS z1 _ _ n1 n1 n1 V90 (by omega) (RdZ.of_own OW97.out HL1.out) rd99.out)
  clear rd99
  go_wp2_with fail
  refine E100.out.mono ?_
  rintro e V101 ⟨rfl, h102⟩
  clear E100
  have AN103 := Lib.hid (AN94.out.trans (h102.mono AN94.out.size))
  clear AN94
  have AN104 := Lib.hid (AN95.out.trans (h102.mono AN95.out.size))
  clear AN95
  have OW105 := Lib.hid (own_.own_below OW96.out h102)
  clear OW96
  have OW106 := Lib.hid (own_.own_below OW97.out h102)
  clear OW97
  have OW107 := Lib.hid (own_.own_below OW98.out h102)
  clear OW98
  clear h102
  go_wp2_with fail
  refine (trke.markS V15.heap.size (some ⟨g23, 0, none⟩) 1 n0 n0 _ V101 (by have := HNN.out; omega) OW105.out).mono ?_
  rintro e V108 ⟨rfl, h109, hg110, ho111⟩
  have AN112 := Lib.hid (AN103.out.trans (h109.mono LE24.out))
  clear AN103
  have AN113 := Lib.hid (AN104.out.trans (h109.mono LE25.out))
  clear AN104
  have OW114 := Lib.hid (own_kept OW106.out hg110 (fun q hq => Nat.lt_of_lt_of_le (LT30.out q hq) LE38.out))
  clear OW106
  have OW115 := Lib.hid (own_kept OW107.out hg110 (fun q hq => Nat.lt_of_lt_of_le (LT30.out q hq) LE51.out))
  clear OW107
  clear OW105 h109 hg110
  clear ho111
  go_wp2_with fail
  refine (plce.markS V20.heap.size (some ⟨g35, 0, none⟩) (1 + n0 * 6) n1 n1 _ V108 (by have := HNN.out; omega) OW114.out).mono ?_
  rintro e V116 ⟨rfl, h117, hg118, ho119⟩
  have AN120 := Lib.hid (AN112.out.trans (h117.mono LE36.out))
  clear AN112
  have AN121 := Lib.hid (AN113.out.trans (h117.mono LE37.out))
  clear AN113
  have OW122 := Lib.hid (own_kept OW115.out hg118 (fun q hq => Nat.lt_of_lt_of_le (LT45.out q hq) LE52.out))
  clear OW115
  clear OW114 h117 hg118
  clear ho119
  have KN : decide ((((1 + n0 * 6) + n1 * 2 : Nat) : Int) < 0) = false := decide_eq_false (by omega)
  generalize (((1 + n0 * 6) + n1 * 2 : Nat) : Int) = KK at *
  have E123 := Lib.hid (ints.eq_same V AG AW N cG cW V116 (by have := HNN.out; omega) (intc.rd_of_own OW122.out HV.out) (RW.out.next AN121.out))
  go_wp2_with fail
  refine E123.out.mono ?_
  rintro e wx ⟨rfl, j124, rfl⟩
  clear E123
  have AN126 := Lib.hid (aid.below_drewN AN120.out j124)
  clear AN120
  have AN127 := Lib.hid (aid.below_drewN AN121.out j124)
  clear AN121
  have OW128 := Lib.hid (own_.own_drewN OW122.out j124)
  clear OW122
  generalize V116.drewN j124 = V125 at *
  clear KN
  go_wp2_with fail
  refine (intc.markI V32.heap.size AG 1 N cG _ V125 (by have := HNN.out; omega) OW128.out).mono ?_
  rintro e V129 ⟨rfl, h130, hg131, ho132⟩
  have AN133 := Lib.hid (AN126.out.trans (h130.mono LE49.out))
  clear AN126
  have AN134 := Lib.hid (AN127.out.trans (h130.mono LE50.out))
  clear AN127
  clear OW128 h130 hg131
  have MG := Lib.hid (intc.rd_of_own ho132 (marksI_length 1 N))
  clear ho132
  have AN135 := Lib.hid (Below.refl V129.heap.size V129)
  have K5 : decide (((1 + N : Nat) : Int) < 0) = false := decide_eq_false (by omega)
  have K6 : (((1 + N : Nat) : Int) != ((1 + N : Nat) : Int)) = false := int_ne_self _
  have HH := Lib.hid (fun (W : World) h => ints.held AG 1 N cG W (by have := HNN.out; omega) (h))
  generalize ((1 + N : Nat) : Int) = K at *
  go_wp2_with fail
  refine (HH.out V129 (MG.out.next AN135.out)).mono ?_
  rintro e w' ⟨rfl, rfl⟩
  go_wp2_with fail
  refine (HC0.out V129 AN133.out).mono ?_
  rintro e V136 ⟨g139, rfl, ho138, h137⟩
  have AN140 := Lib.hid (AN133.out.trans (h137.mono AN133.out.size))
  clear AN133
  have AN141 := Lib.hid (AN134.out.trans (h137.mono AN134.out.size))
  clear AN134
  have AN142 := Lib.hid (AN135.out.trans (h137.mono AN135.out.size))
  clear AN135
  have rd143 := Lib.hid (RdZ.of_own ho138 HL0.out)
  clear h137 ho138
  go_wp2_with fail
  refine (HC1.out V136 AN140.out).mono ?_
  rintro e V144 ⟨g147, rfl, ho146, h145⟩
  have AN148 := Lib.hid (AN140.out.trans (h145.mono AN140.out.size))
  clear AN140
  have AN149 := Lib.hid (AN141.out.trans (h145.mono AN141.out.size))
  clear AN141
  have AN150 := Lib.hid (AN142.out.trans (h145.mono AN142.out.size))
  clear AN142
  have rd151 := Lib.hid (rd143.out.next h145)
  clear rd143
  have rd152 := Lib.hid (RdZ.of_own ho146 HL1.out)
  clear h145 ho146
  go_wp2_with fail
  refine (HI.out _ _ _ _ V144 (Nat.le_refl _) (Nat.le_refl _) rd151.out rd152.out).mono ?_
  rintro e V153 ⟨vH, rfl, ho155, h154⟩
  obtain ⟨AH, cH, rfl⟩ := own_sliceZ ho155
  clear rd151 rd152
  have AN156 := Lib.hid (AN148.out.trans (h154.mono AN148.out.size))
  clear AN148
  have AN157 := Lib.hid (AN149.out.trans (h154.mono AN149.out.size))
  clear AN149
  have AN158 := Lib.hid (AN150.out.trans (h154.mono AN150.out.size))
  clear AN150
  clear h154
  have rd159 := intc.rd_of_own ho155 HV.out
  have E160 := Lib.hid (ints.eq_same V AH AW N cH cW V153 (by have := HNN.out; omega) (rd159) (RW.out.next AN157.out))
  go_wp2_with fail
  refine E160.out.mono ?_
  rintro e wx ⟨rfl, j161, rfl⟩
  clear E160
  have AN163 := Lib.hid (aid.below_drewN AN156.out j161)
  clear AN156
  have AN164 := Lib.hid (aid.below_drewN AN157.out j161)
  clear AN157
  have AN165 := Lib.hid (aid.below_drewN AN158.out j161)
  clear AN158
  generalize V153.drewN j161 = V162 at *
  go_wp2_with fail
  refine (HH.out V162 (MG.out.next AN165.out)).mono ?_
  rintro e w' ⟨rfl, rfl⟩
  go_wp2_with fail
  go_ret
  exact ⟨rfl, AN163.out⟩

set_option maxRecDepth 100000 in
theorem walk (a0 : Option Addr) (n0 c0 : Nat) (z0 : List Int) (a1 : Option Addr) (n1 c1 : Nat) (z1 : List Int) (a2 : Int) (w : World) (w0 : RdZ 6 w w.heap.size a0 n0 z0) (l0 : n0 ≤ maxLen) (w1 : RdZ 2 w w.heap.size a1 n1 z1) (l1 : n1 ≤ maxLen) (w2 : (Lit.int .i64 a2).wf = true) :
    Calls Try.prog 6 #[.slice a0 n0 c0, .slice a1 n1 c1, .int .i64 a2] w fun e w' => e = .returned (.bool true) ∧ Below w.heap.size w w' := by
  by_cases hn0 : n0 ≤ 1048576
  · skip
    by_cases hn1 : n0 + n1 ≤ 1048576
    · skip
      exact law_of a0 c0 a1 c1 z0 n0 z1 n1 a2 (asgb.beV z0 n0 z1 n1 a2) ((asgb.beV z0 n0 z1 n1 a2).length) (asgb.beC z0 n0 z1 n1 a2) (asg.akB z0 n0 z1 n1 a2) w hn0 w0 (show n1 ≤ 1048576 by omega) w1 (Nat.le_trans (asgb.beV_le z0 n0 z1 n1 a2) (by omega)) (rfl) hn1
        (fun A0 c0 A1 c1 w hc0 hc1 h0 h1 => asgy.bestAssignment z0 z1 a2 A0 A1 n0 c0 n1 c1 w (by omega) (by omega) h0 h1)
        (fun A0 c0 A1 c1 w hc0 hc1 h0 h1 => asgi.bestAssignment z0 z1 a2 A0 A1 n0 c0 n1 c1 w (by omega) (by omega) h0 h1)
    · have HZ1 := Lib.hid (fun w => plce.szL a1 n1 c1 (1048576 - (n0 : Int)) w l1 (by omega) (by omega))
      rw [if_neg (by omega)] at HZ1
      have HZ0 := Lib.hid (trke.sz a0 n0 c0 w l0)
      rw [if_pos hn0] at HZ0
      have d0 : decide ((1048576 : Int) - (n0 : Int) < 0) = false := decide_eq_false (by omega)
      clear w0 l0 w1 l1 w2 hn1
      go_enter Try.func6, Try.ntmps6
      go_wp2_with fail
      refine (HZ0.out).mono ?_
      rintro e w' ⟨rfl, rfl⟩
      go_wp2_with fail
      refine (HZ1.out _).mono ?_
      rintro e w' ⟨rfl, rfl⟩
      go_wp2_with fail
      go_ret
      exact ⟨rfl, Below.refl _ _⟩
  · have HZ0 := Lib.hid (trke.sz a0 n0 c0 w l0)
    rw [if_neg hn0] at HZ0
    clear w0 l0 w1 l1 w2 hn0
    go_enter Try.func6, Try.ntmps6
    go_wp2_with fail
    refine (HZ0.out).mono ?_
    rintro e w' ⟨rfl, rfl⟩
    go_wp2_with fail
    go_ret
    exact ⟨rfl, Below.refl _ _⟩


theorem own : ownKnob Try.prog.godebug = none := by kernel_rfl
theorem laidOut : laidOutB Try.prog = true := by kernel_rfl

set_option maxRecDepth 100000 in
theorem lifted (os : Os) (started : os.Started) (H : Type) (enc : TypeId × Value → H) :
    ReturnsInHanded {} Try.checked os 6 .any (Rows.fnExactBestAssignmentSpec.pre6 enc Try.prog Try.f6 Rows.fnExactBestAssignmentRow.domain false) (Rows.fnExactBestAssignmentSpec.post enc Try.prog Try.f6 false true false false) := by
  refine returnsInHanded_of_change (C := Try.checked) own started (by kernel_rfl) Try.func6
    (ChangeSpec.witness6 (enc := enc) (C := Try.checked) false ⟨#[], #[.slice none 0 0, .slice none 0 0, .int .i64 0], []⟩ 8 (by kernel_rfl) (by kernel_rfl) (by kernel_rfl) (by kernel_rfl)) ?_
  intro W base args ds gs before hval0 hW hcnd _
  have hval : ∀ (j : Nat) t v, Try.f6.params[j]? = some t → args[j]? = some v → Value.okWide Try.prog W .any base t v := hval0
  have hW' := hW
  obtain ⟨p, q, hA0, hV, rfl, hfz, hnd⟩ := hW
  have hA : DataW.TrodAll enc Try.prog W 0 (fun _ => true) true Try.f6.params.toList args.toList ds p := hA0
  rw [Try.params6] at hA hval
  obtain ⟨v0, vs0, d0, ds0, p0, q0, hargs, rfl, rfl, h0, r0⟩ := trodAll_cons hA
  obtain ⟨v1, vs1, d1, ds1, p1, q1, rfl, rfl, rfl, h1, r1⟩ := trodAll_cons r0
  obtain ⟨v2, vs2, d2, ds2, p2, q2, rfl, rfl, rfl, h2, r2⟩ := trodAll_cons r1
  obtain ⟨rfl, rfl, rfl⟩ := trodAll_nil r2
  obtain rfl : args = #[v0, v1, v2] := by cases args; simp_all
  obtain ⟨rfl, rfl⟩ := trodVars_none hV
  obtain ⟨a0, len0, cap0, rfl⟩ := okWide_slice Try.underlying33 (hval 0 33 v0 rfl rfl)
  have k0 := h0
  have lt0 : ∀ x ∈ p0, x.block < W.heap.size := by obtain ⟨m, hm⟩ := k0; exact DataW.trod_lt m _ _ _ hm
  obtain ⟨z0, w0, n0⟩ : ∃ zs, lst.RdZ 6 W W.heap.size a0 len0 zs ∧ len0 ≤ maxLen := by
    obtain ⟨fuel, hf⟩ := h0
    obtain ⟨A, n, c, zs, hcs, hrd, hle⟩ := lsto.open_structs Try.underlying33 Try.underlying23 (by kernel_rfl) (by kernel_rfl) (by decide) (by
        intro j f hg
        match j, hg with
        | 0, hg => exact (Option.some.inj hg) ▸ Try.underlying3
        | 1, hg => exact (Option.some.inj hg) ▸ Try.underlying3
        | 2, hg => exact (Option.some.inj hg) ▸ Try.underlying3
        | 3, hg => exact (Option.some.inj hg) ▸ Try.underlying3
        | 4, hg => exact (Option.some.inj hg) ▸ Try.underlying3
        | 5, hg => exact (Option.some.inj hg) ▸ Try.underlying3
        | q + 6, hg => exact absurd (Array.getElem?_eq_some_iff.1 hg).1 (by simp)) hf
    simp [Value.cells] at hcs
    obtain ⟨rfl, rfl, rfl⟩ := hcs
    exact ⟨zs, hrd, hle⟩
  obtain ⟨a1, len1, cap1, rfl⟩ := okWide_slice Try.underlying34 (hval 1 34 v1 rfl rfl)
  have k1 := h1
  have lt1 : ∀ x ∈ p1, x.block < W.heap.size := by obtain ⟨m, hm⟩ := k1; exact DataW.trod_lt m _ _ _ hm
  obtain ⟨z1, w1, n1⟩ : ∃ zs, lst.RdZ 2 W W.heap.size a1 len1 zs ∧ len1 ≤ maxLen := by
    obtain ⟨fuel, hf⟩ := h1
    obtain ⟨A, n, c, zs, hcs, hrd, hle⟩ := lsto.open_structs Try.underlying34 Try.underlying25 (by kernel_rfl) (by kernel_rfl) (by decide) (by
        intro j f hg
        match j, hg with
        | 0, hg => exact (Option.some.inj hg) ▸ Try.underlying3
        | 1, hg => exact (Option.some.inj hg) ▸ Try.underlying3
        | q + 2, hg => exact absurd (Array.getElem?_eq_some_iff.1 hg).1 (by simp)) hf
    simp [Value.cells] at hcs
    obtain ⟨rfl, rfl, rfl⟩ := hcs
    exact ⟨zs, hrd, hle⟩
  obtain ⟨a2, rfl, rfl, rfl, w2⟩ := open_int Try.underlying3 (hval 2 3 v2 rfl rfl) h2
  clear hA0 hval0
  refine (walk a0 len0 cap0 z0 a1 len1 cap1 z1 a2 W w0 n0 w1 n1 w2).mono fun e W' ⟨he, bel⟩ => ?_
  subst he
  exact ⟨_, rfl, _, _, _, [], _, [], hW', trodAll_mk1 (shut_bool Try.underlying4 _), (trodAll_cons_mk (Below.trod laidOut (by kernel_rfl) (of_decide_eq_true (by kernel_rfl)) k0 bel lt0) (trodAll_cons_mk (Below.trod laidOut (by kernel_rfl) (of_decide_eq_true (by kernel_rfl)) k1 bel lt1) (trodAll_cons_mk (shut_int Try.underlying3 w2) trodAll_mk0))), rfl, bel.frame _, fun h => by cases h⟩

theorem over : Rows.fnExactBestAssignmentRow.holds Try.pinned (OpenSpec.ofChange Rows.fnExactBestAssignmentSpec) :=
  OpenClaim.holds_of_wide 6 Try.f6 rfl rfl rfl rfl rfl rfl rfl ⟨rfl, rfl, rfl, rfl, rfl⟩ rfl rfl rfl rfl rfl (by kernel_rfl) Try.func6 (by kernel_rfl)
    (of_decide_eq_true (by kernel_rfl)) (by unfold Func.isWrapper; first | (rw [if_pos (by decide +kernel)]; kernel_rfl) | (rw [if_neg (by decide +kernel)]; exact ⟨rfl, rfl⟩))
    (fun os started H enc _ => lifted os started H enc)

theorem proved : Rows.FnExactBestAssignmentSaid :=
  over
#print axioms proved
end Go.Proofs.Ytedocpocfpopgaa.fnExactBestAssignment
