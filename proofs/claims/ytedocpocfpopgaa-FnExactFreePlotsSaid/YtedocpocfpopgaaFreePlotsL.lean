/- For every slice of tracks, every slice of places and all other arguments the law FnExactFreePlots returns true: impl.FreePlots and spec.FreePlots return the same indices and true, or both an empty slice and false; the arguments are left as they were, the results share no memory. No condition. -/
import Derived.Test.YtedocpocfpopgaaRows
import Derived.Test.YtedocpocfpopgaaAsgG
import Derived.Test.YtedocpocfpopgaaAsgX
import Derived.Test.YtedocpocfpopgaaIntC
import Derived.Test.YtedocpocfpopgaaLstO
import Derived.Test.YtedocpocfpopgaaTrkE
import Derived.WalkKit
import Derived.ProofKit
import Derived.OpenShut
import Derived.ShutString
import Derived.ChangeOld
import Derived.Below
import Derived.Lib.SmallJoins
import Derived.Lib.QuietBelow
import Derived.Deep.RegionHeld3
import Derived.Deep.CutRange
namespace Go.Proofs.Ytedocpocfpopgaa.fnExactFreePlots
open Go.ChangeShapes Go.WideShapes Go.ChangeAt Go.RowKit Go.Joins Go.Proofs.Ytedocpocfpopgaa.ats Go.Proofs.Ytedocpocfpopgaa.ints Go.Proofs.Ytedocpocfpopgaa.lst Go.Proofs.Ytedocpocfpopgaa.intc Go.Proofs.Ytedocpocfpopgaa.code_
open Go.ChangeMaps (open_string shut_string)
set_option linter.unusedVariables false

theorem bool_ne_self (b : Bool) : (b != b) = false := by simp
theorem int_ne_self (x : Int) : (x != x) = false := by simp

/-- The function f returns this. -/
def Gives (f : Nat) (z0 : List Int) (n0 : Nat) (z1 : List Int) (n1 : Nat) (z3 : List Int) (n3 : Nat) (a2 : Int) (V : List Int) (N : Nat) (O0 : Bool) : Prop := ∀ (A0 : Option Addr) (c0 : Nat) (A1 : Option Addr) (c1 : Nat) (A3 : Option Addr) (c3 : Nat) (w : World), n0 ≤ c0 → n1 ≤ c1 → n3 ≤ c3 → RdZ 6 w w.heap.size A0 n0 z0 → RdZ 2 w w.heap.size A1 n1 z1 → RdI w w.heap.size A3 n3 z3 → 
  Calls Try.prog f #[.slice A0 n0 c0, .slice A1 n1 c1, .int .i64 a2, .slice A3 n3 c3] w fun e w' => ∃ v, e = .returned (.tuple #[v, .bool O0]) ∧ w'.ownsRow w.heap.size 3 1 v N (cellsI V) ∧ Below w.heap.size w w'

set_option maxRecDepth 100000 in
set_option maxHeartbeats 8000000 in
theorem law_of (a0 : Option Addr) (c0 : Nat) (a1 : Option Addr) (c1 : Nat) (a3 : Option Addr) (c3 : Nat) (z0 : List Int) (n0 : Nat) (z1 : List Int) (n1 : Nat) (z3 : List Int) (n3 : Nat) (a2 : Int) (V : List Int) (N : Nat) (O0 : Bool) (w : World) (hn0 : n0 ≤ 1048576) (hr0 : RdZ 6 w w.heap.size a0 n0 z0) (hn1 : n1 ≤ 1048576) (hr1 : RdZ 2 w w.heap.size a1 n1 z1) (hn3 : n3 ≤ 1048576) (hr3 : RdI w w.heap.size a3 n3 z3) (hN : N ≤ 1048576) (hV : V.length = N) (hsum : n0 + n1 ≤ 1048576)
    (hs : Gives 35 z0 n0 z1 n1 z3 n3 a2 V N O0) (hi : Gives 36 z0 n0 z1 n1 z3 n3 a2 V N O0) :
    Calls Try.prog 8 #[.slice a0 n0 c0, .slice a1 n1 c1, .int .i64 a2, .slice a3 n3 c3] w fun e w' => e = .returned (.bool true) ∧ Below w.heap.size w w' := by
  have HZ0 := Lib.hid (fun w => trke.sz a0 n0 c0 w (by unfold maxLen; omega))
  rw [if_pos hn0] at HZ0
  have d0 : decide ((1048576 : Int) - (n0 : Int) < 0) = false := decide_eq_false (by omega)
  have HC0 := Lib.hid (fun (w' : World) (hb : Below w.heap.size w w') => trke.copyS z0 a0 n0 c0 w' hn0 (hr0.next hb))
  have HL0 := Lib.hid hr0.1
  have HZ1 := Lib.hid (fun w => plce.szL a1 n1 c1 (1048576 - (n0 : Int)) w (by unfold maxLen; omega) (by omega) (by omega))
  rw [if_pos (by omega)] at HZ1
  have d1 : decide ((1048576 : Int) - (n0 : Int) - (n1 : Int) < 0) = false := decide_eq_false (by omega)
  have HC1 := Lib.hid (fun (w' : World) (hb : Below w.heap.size w w') => plce.copyS z1 a1 n1 c1 w' hn1 (hr1.next hb))
  have HL1 := Lib.hid hr1.1
  have d3 : ¬ (1048576 : Int) < (n3 : Int) := by omega
  have HC3 := Lib.hid (fun (w' : World) (hb : Below w.heap.size w w') => intc.copyI z3 a3 n3 c3 w' hn3 (hr3.next hb))
  have HL3 := Lib.hid hr3.1
  have HS := Lib.hid (fun (A0 : Option Addr) (c0 : Nat) (A1 : Option Addr) (c1 : Nat) (A3 : Option Addr) (c3 : Nat) (w : World) (e0 : n0 ≤ c0) (e1 : n1 ≤ c1) (e3 : n3 ≤ c3) (h0 : RdZ 6 w w.heap.size A0 n0 z0) (h1 : RdZ 2 w w.heap.size A1 n1 z1) (h3 : RdI w w.heap.size A3 n3 z3) => hs A0 c0 A1 c1 A3 c3 w e0 e1 e3 h0 h1 h3)
  have HI := Lib.hid (fun (A0 : Option Addr) (c0 : Nat) (A1 : Option Addr) (c1 : Nat) (A3 : Option Addr) (c3 : Nat) (w : World) (e0 : n0 ≤ c0) (e1 : n1 ≤ c1) (e3 : n3 ≤ c3) (h0 : RdZ 6 w w.heap.size A0 n0 z0) (h1 : RdZ 2 w w.heap.size A1 n1 z1) (h3 : RdI w w.heap.size A3 n3 z3) => hi A0 c0 A1 c1 A3 c3 w e0 e1 e3 h0 h1 h3)
  have HV := Lib.hid hV
  have HNN := Lib.hid hN
  have ne0 := bool_ne_self O0
  clear hs hi hr0 hr1 hr3 hV
  go_enter Try.func8, Try.ntmps8
  go_wp2_with fail
  refine (HZ0.out w).mono ?_
  rintro e w' ⟨rfl, rfl⟩
  go_wp2_with fail
  refine (HZ1.out w).mono ?_
  rintro e w' ⟨rfl, rfl⟩
  have AN1 := Lib.hid (Below.refl w.heap.size w)
  go_wp2_with fail
  refine (HC0.out w AN1.out).mono ?_
  rintro e V2 ⟨g5, rfl, ho4, h3⟩
  have AN6 := Lib.hid (AN1.out.trans (h3.mono AN1.out.size))
  clear AN1
  have rd7 := Lib.hid (RdZ.of_own ho4 HL0.out)
  clear h3 ho4
  go_wp2_with fail
  refine (HC1.out V2 AN6.out).mono ?_
  rintro e V8 ⟨g11, rfl, ho10, h9⟩
  have AN12 := Lib.hid (AN6.out.trans (h9.mono AN6.out.size))
  clear AN6
  have rd13 := Lib.hid (rd7.out.next h9)
  clear rd7
  have rd14 := Lib.hid (RdZ.of_own ho10 HL1.out)
  clear h9 ho10
  go_wp2_with fail
  refine (HC3.out V8 AN12.out).mono ?_
  rintro e V15 ⟨g18, rfl, ho17, h16⟩
  have AN19 := Lib.hid (AN12.out.trans (h16.mono AN12.out.size))
  clear AN12
  have rd20 := Lib.hid (rd13.out.next h16)
  clear rd13
  have rd21 := Lib.hid (rd14.out.next h16)
  clear rd14
  have rd22 := Lib.hid (intc.rd_of_own ho17 HL3.out)
  clear h16 ho17
  go_wp2_with fail
  refine (HS.out _ _ _ _ _ _ V15 (Nat.le_refl _) (Nat.le_refl _) (Nat.le_refl _) rd20.out rd21.out rd22.out).mono ?_
  rintro e V23 ⟨vW, rfl, ho25, h24⟩
  obtain ⟨AW, cW, rfl⟩ := own_sliceZ ho25
  clear rd20 rd21 rd22
  have AN26 := Lib.hid (AN19.out.trans (h24.mono AN19.out.size))
  clear AN19
  clear h24
  have RW := Lib.hid (intc.rd_of_own ho25 HV.out)
  clear ho25
  have AN27 := Lib.hid (Below.refl V23.heap.size V23)
  go_wp2_with fail
  refine (HC0.out V23 AN26.out).mono ?_
  rintro e V28 ⟨g31, rfl, ho30, h29⟩
  have LE32 := Lib.hid AN26.out.size
  have LE33 := Lib.hid AN27.out.size
  have AN34 := Lib.hid (AN26.out.trans (h29.mono AN26.out.size))
  clear AN26
  have AN35 := Lib.hid (AN27.out.trans (h29.mono AN27.out.size))
  clear AN27
  have rd36 := Lib.hid (RdZ.of_own ho30 HL0.out)
  have OW37 := Lib.hid ho30
  have LT38 := Lib.hid (own_row_lt ho30)
  have AN39 := Lib.hid (Below.refl V28.heap.size V28)
  clear h29 ho30
  go_wp2_with fail
  refine (HC1.out V28 AN34.out).mono ?_
  rintro e V40 ⟨g43, rfl, ho42, h41⟩
  have LE44 := Lib.hid AN34.out.size
  have LE45 := Lib.hid AN35.out.size
  have LE46 := Lib.hid AN39.out.size
  have AN47 := Lib.hid (AN34.out.trans (h41.mono AN34.out.size))
  clear AN34
  have AN48 := Lib.hid (AN35.out.trans (h41.mono AN35.out.size))
  clear AN35
  have AN49 := Lib.hid (AN39.out.trans (h41.mono AN39.out.size))
  clear AN39
  have OW50 := Lib.hid (own_.own_below OW37.out h41)
  clear OW37
  have rd51 := Lib.hid (RdZ.of_own ho42 HL1.out)
  have OW52 := Lib.hid ho42
  have LT53 := Lib.hid (own_row_lt ho42)
  have AN54 := Lib.hid (Below.refl V40.heap.size V40)
  clear h41 ho42
  go_wp2_with fail
  refine (HC3.out V40 AN47.out).mono ?_
  rintro e V55 ⟨g58, rfl, ho57, h56⟩
  have LE59 := Lib.hid AN47.out.size
  have LE60 := Lib.hid AN48.out.size
  have LE61 := Lib.hid AN49.out.size
  have LE62 := Lib.hid AN54.out.size
  have AN63 := Lib.hid (AN47.out.trans (h56.mono AN47.out.size))
  clear AN47
  have AN64 := Lib.hid (AN48.out.trans (h56.mono AN48.out.size))
  clear AN48
  have AN65 := Lib.hid (AN49.out.trans (h56.mono AN49.out.size))
  clear AN49
  have AN66 := Lib.hid (AN54.out.trans (h56.mono AN54.out.size))
  clear AN54
  have OW67 := Lib.hid (own_.own_below OW50.out h56)
  clear OW50
  have OW68 := Lib.hid (own_.own_below OW52.out h56)
  clear OW52
  have rd69 := Lib.hid (intc.rd_of_own ho57 HL3.out)
  have OW70 := Lib.hid ho57
  have LT71 := Lib.hid (own_row_lt ho57)
  have AN72 := Lib.hid (Below.refl V55.heap.size V55)
  clear h56 ho57
  have rd73 := Lib.hid (RdZ.of_own OW67.out HL0.out)
  have rd74 := Lib.hid (RdZ.of_own OW68.out HL1.out)
  have rd75 := Lib.hid (intc.rd_of_own OW70.out HL3.out)
  have LE76 := Lib.hid AN63.out.size
  have LE77 := Lib.hid AN64.out.size
  have LE78 := Lib.hid AN65.out.size
  have LE79 := Lib.hid AN66.out.size
  have LE80 := Lib.hid AN72.out.size
  go_wp2_with fail
  refine (HI.out _ _ _ _ _ _ V55 (Nat.le_refl _) (Nat.le_refl _) (Nat.le_refl _) rd73.out rd74.out rd75.out).mono ?_
  rintro e V81 ⟨vG, rfl, ho83, h82⟩
  obtain ⟨AG, cG, rfl⟩ := own_sliceZ ho83
  clear rd73 rd74 rd75
  have AN84 := Lib.hid (AN63.out.trans (h82.mono AN63.out.size))
  clear AN63
  have AN85 := Lib.hid (AN64.out.trans (h82.mono AN64.out.size))
  clear AN64
  have AN86 := Lib.hid (AN65.out.trans (h82.mono AN65.out.size))
  clear AN65
  have AN87 := Lib.hid (AN66.out.trans (h82.mono AN66.out.size))
  clear AN66
  have AN88 := Lib.hid (AN72.out.trans (h82.mono AN72.out.size))
  clear AN72
  have OW89 := Lib.hid (own_.own_below OW67.out h82)
  clear OW67
  have OW90 := Lib.hid (own_.own_below OW68.out h82)
  clear OW68
  have OW91 := Lib.hid (own_.own_below OW70.out h82)
  clear OW70
  clear h82
  clear AN86
  clear AN87
  clear AN88
  have OW92 := Lib.hid ho83
  have LT93 := Lib.hid (own_row_lt ho83)
  clear ho83
  have E94 := Lib.hid (ints.eq_same V AG AW N cG cW V81 (by have := HNN.out; omega) (intc.rd_of_own OW92.out HV.out) (RW.out.next AN85.out))
  go_wp2_with fail
  refine E94.out.mono ?_
  rintro e wx ⟨rfl, j95, rfl⟩
  clear E94
  have AN97 := Lib.hid (aid.below_drewN AN84.out j95)
  clear AN84
  have AN98 := Lib.hid (aid.below_drewN AN85.out j95)
  clear AN85
  have OW99 := Lib.hid (own_.own_drewN OW89.out j95)
  clear OW89
  have OW100 := Lib.hid (own_.own_drewN OW90.out j95)
  clear OW90
  have OW101 := Lib.hid (own_.own_drewN OW91.out j95)
  clear OW91
  have OW102 := Lib.hid (own_.own_drewN OW92.out j95)
  clear OW92
  generalize V81.drewN j95 = V96 at *
  go_wp2_with fail
  refine (HC0.out V96 AN97.out).mono ?_
  rintro e V103 ⟨g106, rfl, ho105, h104⟩
  have AN107 := Lib.hid (AN97.out.trans (h104.mono AN97.out.size))
  clear AN97
  have AN108 := Lib.hid (AN98.out.trans (h104.mono AN98.out.size))
  clear AN98
  have OW109 := Lib.hid (own_.own_below OW99.out h104)
  clear OW99
  have OW110 := Lib.hid (own_.own_below OW100.out h104)
  clear OW100
  have OW111 := Lib.hid (own_.own_below OW101.out h104)
  clear OW101
  have OW112 := Lib.hid (own_.own_below OW102.out h104)
  clear OW102
  have rd113 := Lib.hid (RdZ.of_own ho105 HL0.out)
  clear h104 ho105
  have E114 := Lib.hid (trke.eqS z0 _ _ n0 n0 n0 V103 (by omega) (RdZ.of_own OW109.out HL0.out) rd113.out)
  clear rd113
  go_wp2_with fail
  refine E114.out.mono ?_
  rintro e V115 ⟨rfl, h116⟩
  clear E114
  have AN117 := Lib.hid (AN107.out.trans (h116.mono AN107.out.size))
  clear AN107
  have AN118 := Lib.hid (AN108.out.trans (h116.mono AN108.out.size))
  clear AN108
  have OW119 := Lib.hid (own_.own_below OW109.out h116)
  clear OW109
  have OW120 := Lib.hid (own_.own_below OW110.out h116)
  clear OW110
  have OW121 := Lib.hid (own_.own_below OW111.out h116)
  clear OW111
  have OW122 := Lib.hid (own_.own_below OW112.out h116)
  clear OW112
  clear h116
  go_wp2_with fail
  refine (HC1.out V115 AN117.out).mono ?_
  rintro e V123 ⟨g126, rfl, ho125, h124⟩
  have AN127 := Lib.hid (AN117.out.trans (h124.mono AN117.out.size))
  clear AN117
  have AN128 := Lib.hid (AN118.out.trans (h124.mono AN118.out.size))
  clear AN118
  have OW129 := Lib.hid (own_.own_below OW119.out h124)
  clear OW119
  have OW130 := Lib.hid (own_.own_below OW120.out h124)
  clear OW120
  have OW131 := Lib.hid (own_.own_below OW121.out h124)
  clear OW121
  have OW132 := Lib.hid (own_.own_below OW122.out h124)
  clear OW122
  have rd133 := Lib.hid (RdZ.of_own ho125 HL1.out)
  clear h124 ho125
  have E134 := Lib.hid (plce.eqS z1 _ _ n1 n1 n1 V123 (by omega) (RdZ.of_own OW130.out HL1.out) rd133.out)
  clear rd133
  go_wp2_with fail
  refine E134.out.mono ?_
  rintro e V135 ⟨rfl, h136⟩
  clear E134
  have AN137 := Lib.hid (AN127.out.trans (h136.mono AN127.out.size))
  clear AN127
  have AN138 := Lib.hid (AN128.out.trans (h136.mono AN128.out.size))
  clear AN128
  have OW139 := Lib.hid (own_.own_below OW129.out h136)
  clear OW129
  have OW140 := Lib.hid (own_.own_below OW130.out h136)
  clear OW130
  have OW141 := Lib.hid (own_.own_below OW131.out h136)
  clear OW131
  have OW142 := Lib.hid (own_.own_below OW132.out h136)
  clear OW132
  clear h136
  go_wp2_with fail
  refine (HC3.out V135 AN137.out).mono ?_
  rintro e V143 ⟨g146, rfl, ho145, h144⟩
  have AN147 := Lib.hid (AN137.out.trans (h144.mono AN137.out.size))
  clear AN137
  have AN148 := Lib.hid (AN138.out.trans (h144.mono AN138.out.size))
  clear AN138
  have OW149 := Lib.hid (own_.own_below OW139.out h144)
  clear OW139
  have OW150 := Lib.hid (own_.own_below OW140.out h144)
  clear OW140
  have OW151 := Lib.hid (own_.own_below OW141.out h144)
  clear OW141
  have OW152 := Lib.hid (own_.own_below OW142.out h144)
  clear OW142
  have rd153 := Lib.hid (intc.rd_of_own ho145 HL3.out)
  clear h144 ho145
  have E154 := Lib.hid (ints.eq_same z3 _ _ n3 n3 n3 V143 (by omega) (intc.rd_of_own OW151.out HL3.out) rd153.out)
  clear rd153
  go_wp2_with fail
  refine E154.out.mono ?_
  rintro e wx ⟨rfl, j155, rfl⟩
  clear E154
  have AN157 := Lib.hid (aid.below_drewN AN147.out j155)
  clear AN147
  have AN158 := Lib.hid (aid.below_drewN AN148.out j155)
  clear AN148
  have OW159 := Lib.hid (own_.own_drewN OW149.out j155)
  clear OW149
  have OW160 := Lib.hid (own_.own_drewN OW150.out j155)
  clear OW150
  have OW161 := Lib.hid (own_.own_drewN OW151.out j155)
  clear OW151
  have OW162 := Lib.hid (own_.own_drewN OW152.out j155)
  clear OW152
  generalize V143.drewN j155 = V156 at *
  go_wp2_with fail
  refine (trke.markS V23.heap.size (some ⟨g31, 0, none⟩) 1 n0 n0 _ V156 (by have := HNN.out; omega) OW159.out).mono ?_
  rintro e V163 ⟨rfl, h164, hg165, ho166⟩
  have AN167 := Lib.hid (AN157.out.trans (h164.mono LE32.out))
  clear AN157
  have AN168 := Lib.hid (AN158.out.trans (h164.mono LE33.out))
  clear AN158
  have OW169 := Lib.hid (own_kept OW160.out hg165 (fun q hq => Nat.lt_of_lt_of_le (LT38.out q hq) LE46.out))
  clear OW160
  have OW170 := Lib.hid (own_kept OW161.out hg165 (fun q hq => Nat.lt_of_lt_of_le (LT38.out q hq) LE61.out))
  clear OW161
  have OW171 := Lib.hid (own_kept OW162.out hg165 (fun q hq => Nat.lt_of_lt_of_le (LT38.out q hq) LE78.out))
  clear OW162
  clear OW159 h164 hg165
  clear ho166
  go_wp2_with fail
  refine (plce.markS V28.heap.size (some ⟨g43, 0, none⟩) (1 + n0 * 6) n1 n1 _ V163 (by have := HNN.out; omega) OW169.out).mono ?_
  rintro e V172 ⟨rfl, h173, hg174, ho175⟩
  have AN176 := Lib.hid (AN167.out.trans (h173.mono LE44.out))
  clear AN167
  have AN177 := Lib.hid (AN168.out.trans (h173.mono LE45.out))
  clear AN168
  have OW178 := Lib.hid (own_kept OW170.out hg174 (fun q hq => Nat.lt_of_lt_of_le (LT53.out q hq) LE62.out))
  clear OW170
  have OW179 := Lib.hid (own_kept OW171.out hg174 (fun q hq => Nat.lt_of_lt_of_le (LT53.out q hq) LE79.out))
  clear OW171
  clear OW169 h173 hg174
  clear ho175
  go_wp2_with fail
  refine (intc.markI V40.heap.size (some ⟨g58, 0, none⟩) ((1 + n0 * 6) + n1 * 2) n3 n3 _ V172 (by have := HNN.out; omega) OW178.out).mono ?_
  rintro e V180 ⟨rfl, h181, hg182, ho183⟩
  have AN184 := Lib.hid (AN176.out.trans (h181.mono LE59.out))
  clear AN176
  have AN185 := Lib.hid (AN177.out.trans (h181.mono LE60.out))
  clear AN177
  have OW186 := Lib.hid (own_kept OW179.out hg182 (fun q hq => Nat.lt_of_lt_of_le (LT71.out q hq) LE80.out))
  clear OW179
  clear OW178 h181 hg182
  clear ho183
  have KN : decide (((((1 + n0 * 6) + n1 * 2) + n3 : Nat) : Int) < 0) = false := decide_eq_false (by omega)
  generalize ((((1 + n0 * 6) + n1 * 2) + n3 : Nat) : Int) = KK at *
  have E187 := Lib.hid (ints.eq_same V AG AW N cG cW V180 (by have := HNN.out; omega) (intc.rd_of_own OW186.out HV.out) (RW.out.next AN185.out))
  go_wp2_with fail
  refine E187.out.mono ?_
  rintro e wx ⟨rfl, j188, rfl⟩
  clear E187
  have AN190 := Lib.hid (aid.below_drewN AN184.out j188)
  clear AN184
  have AN191 := Lib.hid (aid.below_drewN AN185.out j188)
  clear AN185
  have OW192 := Lib.hid (own_.own_drewN OW186.out j188)
  clear OW186
  generalize V180.drewN j188 = V189 at *
  clear KN
  go_wp2_with fail
  refine (intc.markI V55.heap.size AG 1 N cG _ V189 (by have := HNN.out; omega) OW192.out).mono ?_
  rintro e V193 ⟨rfl, h194, hg195, ho196⟩
  have AN197 := Lib.hid (AN190.out.trans (h194.mono LE76.out))
  clear AN190
  have AN198 := Lib.hid (AN191.out.trans (h194.mono LE77.out))
  clear AN191
  clear OW192 h194 hg195
  have MG := Lib.hid (intc.rd_of_own ho196 (marksI_length 1 N))
  clear ho196
  have AN199 := Lib.hid (Below.refl V193.heap.size V193)
  have K5 : decide (((1 + N : Nat) : Int) < 0) = false := decide_eq_false (by omega)
  have K6 : (((1 + N : Nat) : Int) != ((1 + N : Nat) : Int)) = false := int_ne_self _
  have HH := Lib.hid (fun (W : World) h => ints.held AG 1 N cG W (by have := HNN.out; omega) (h))
  generalize ((1 + N : Nat) : Int) = K at *
  go_wp2_with fail
  refine (HH.out V193 (MG.out.next AN199.out)).mono ?_
  rintro e w' ⟨rfl, rfl⟩
  go_wp2_with fail
  refine (HC0.out V193 AN197.out).mono ?_
  rintro e V200 ⟨g203, rfl, ho202, h201⟩
  have AN204 := Lib.hid (AN197.out.trans (h201.mono AN197.out.size))
  clear AN197
  have AN205 := Lib.hid (AN198.out.trans (h201.mono AN198.out.size))
  clear AN198
  have AN206 := Lib.hid (AN199.out.trans (h201.mono AN199.out.size))
  clear AN199
  have rd207 := Lib.hid (RdZ.of_own ho202 HL0.out)
  clear h201 ho202
  go_wp2_with fail
  refine (HC1.out V200 AN204.out).mono ?_
  rintro e V208 ⟨g211, rfl, ho210, h209⟩
  have AN212 := Lib.hid (AN204.out.trans (h209.mono AN204.out.size))
  clear AN204
  have AN213 := Lib.hid (AN205.out.trans (h209.mono AN205.out.size))
  clear AN205
  have AN214 := Lib.hid (AN206.out.trans (h209.mono AN206.out.size))
  clear AN206
  have rd215 := Lib.hid (rd207.out.next h209)
  clear rd207
  have rd216 := Lib.hid (RdZ.of_own ho210 HL1.out)
  clear h209 ho210
  go_wp2_with fail
  refine (HC3.out V208 AN212.out).mono ?_
  rintro e V217 ⟨g220, rfl, ho219, h218⟩
  have AN221 := Lib.hid (AN212.out.trans (h218.mono AN212.out.size))
  clear AN212
  have AN222 := Lib.hid (AN213.out.trans (h218.mono AN213.out.size))
  clear AN213
  have AN223 := Lib.hid (AN214.out.trans (h218.mono AN214.out.size))
  clear AN214
  have rd224 := Lib.hid (rd215.out.next h218)
  clear rd215
  have rd225 := Lib.hid (rd216.out.next h218)
  clear rd216
  have rd226 := Lib.hid (intc.rd_of_own ho219 HL3.out)
  clear h218 ho219
  go_wp2_with fail
  refine (HI.out _ _ _ _ _ _ V217 (Nat.le_refl _) (Nat.le_refl _) (Nat.le_refl _) rd224.out rd225.out rd226.out).mono ?_
  rintro e V227 ⟨vH, rfl, ho229, h228⟩
  obtain ⟨AH, cH, rfl⟩ := own_sliceZ ho229
  clear rd224 rd225 rd226
  have AN230 := Lib.hid (AN221.out.trans (h228.mono AN221.out.size))
  clear AN221
  have AN231 := Lib.hid (AN222.out.trans (h228.mono AN222.out.size))
  clear AN222
  have AN232 := Lib.hid (AN223.out.trans (h228.mono AN223.out.size))
  clear AN223
  clear h228
  have rd233 := intc.rd_of_own ho229 HV.out
  have E234 := Lib.hid (ints.eq_same V AH AW N cH cW V227 (by have := HNN.out; omega) (rd233) (RW.out.next AN231.out))
  go_wp2_with fail
  refine E234.out.mono ?_
  rintro e wx ⟨rfl, j235, rfl⟩
  clear E234
  have AN237 := Lib.hid (aid.below_drewN AN230.out j235)
  clear AN230
  have AN238 := Lib.hid (aid.below_drewN AN231.out j235)
  clear AN231
  have AN239 := Lib.hid (aid.below_drewN AN232.out j235)
  clear AN232
  generalize V227.drewN j235 = V236 at *
  go_wp2_with fail
  refine (HH.out V236 (MG.out.next AN239.out)).mono ?_
  rintro e w' ⟨rfl, rfl⟩
  go_wp2_with fail
  go_ret
  exact ⟨rfl, AN237.out⟩

set_option maxRecDepth 100000 in
theorem walk (a0 : Option Addr) (n0 c0 : Nat) (z0 : List Int) (a1 : Option Addr) (n1 c1 : Nat) (z1 : List Int) (a2 : Int) (a3 : Option Addr) (n3 c3 : Nat) (z3 : List Int) (w : World) (w0 : RdZ 6 w w.heap.size a0 n0 z0) (l0 : n0 ≤ maxLen) (w1 : RdZ 2 w w.heap.size a1 n1 z1) (l1 : n1 ≤ maxLen) (w2 : (Lit.int .i64 a2).wf = true) (w3 : IsRow .i64 w a3 n3 c3 z3) :
    Calls Try.prog 8 #[.slice a0 n0 c0, .slice a1 n1 c1, .int .i64 a2, .slice a3 n3 c3] w fun e w' => e = .returned (.bool true) ∧ Below w.heap.size w w' := by
  by_cases hn3 : (1048576 : Int) < (n3 : Int)
  · clear w0 l0 w1 l1 w2 w3
    go_enter Try.func8, Try.ntmps8
    go_wp2_with fail
    go_ret
    exact ⟨rfl, Below.refl _ _⟩
  obtain ⟨q3, -, -⟩ := intc.rd_of_row w3
  by_cases hn0 : n0 ≤ 1048576
  · skip
    by_cases hn1 : n0 + n1 ≤ 1048576
    · skip
      have hn3 : n3 ≤ 1048576 := by omega
      exact law_of a0 c0 a1 c1 a3 c3 z0 n0 z1 n1 (z3.take n3) n3 a2 (asg.frV z0 n0 z1 n1 a2 (z3.take n3) n3) ((asg.frV z0 n0 z1 n1 a2 (z3.take n3) n3).length) (asg.agB z0 n0 z1 n1 a2 (z3.take n3) n3) w hn0 w0 (show n1 ≤ 1048576 by omega) w1 hn3 q3 (Nat.le_trans (asg.frV_le z0 n0 z1 n1 a2 (z3.take n3) n3) (by omega)) (rfl) hn1
        (fun A0 c0 A1 c1 A3 c3 w hc0 hc1 hc3 h0 h1 h3 => asgx.freePlots z0 z1 (z3.take n3) a2 A0 A1 A3 n0 c0 n1 c1 n3 c3 w (by omega) (by omega) (by omega) hc3 h0 h1 h3)
        (fun A0 c0 A1 c1 A3 c3 w hc0 hc1 hc3 h0 h1 h3 => asgg.freePlots z0 z1 (z3.take n3) a2 A0 A1 A3 n0 c0 n1 c1 n3 c3 w (by omega) (by omega) (by omega) hc3 h0 h1 h3)
    · have HZ1 := Lib.hid (fun w => plce.szL a1 n1 c1 (1048576 - (n0 : Int)) w l1 (by omega) (by omega))
      rw [if_neg (by omega)] at HZ1
      have HZ0 := Lib.hid (trke.sz a0 n0 c0 w l0)
      rw [if_pos hn0] at HZ0
      have d0 : decide ((1048576 : Int) - (n0 : Int) < 0) = false := decide_eq_false (by omega)
      clear w0 l0 w1 l1 w2 w3 q3 hn1
      go_enter Try.func8, Try.ntmps8
      go_wp2_with fail
      refine (HZ0.out).mono ?_
      rintro e w' ⟨rfl, rfl⟩
      go_wp2_with fail
      refine (HZ1.out _).mono ?_
      rintro e w' ⟨rfl, rfl⟩
      go_wp2_with fail
      go_ret
      exact ⟨rfl, Below.refl _ _⟩
  · have HZ0 := Lib.hid (trke.sz a0 n0 c0 w l0)
    rw [if_neg hn0] at HZ0
    clear w0 l0 w1 l1 w2 w3 q3 hn0
    go_enter Try.func8, Try.ntmps8
    go_wp2_with fail
    refine (HZ0.out).mono ?_
    rintro e w' ⟨rfl, rfl⟩
    go_wp2_with fail
    go_ret
    exact ⟨rfl, Below.refl _ _⟩


theorem own : ownKnob Try.prog.godebug = none := by kernel_rfl
theorem laidOut : laidOutB Try.prog = true := by kernel_rfl

set_option maxRecDepth 100000 in
theorem lifted (os : Os) (started : os.Started) (H : Type) (enc : TypeId × Value → H) :
    ReturnsInHanded {} Try.checked os 8 .any (Rows.fnExactFreePlotsSpec.pre6 enc Try.prog Try.f8 Rows.fnExactFreePlotsRow.domain false) (Rows.fnExactFreePlotsSpec.post enc Try.prog Try.f8 false true false false) := by
  refine returnsInHanded_of_change (C := Try.checked) own started (by kernel_rfl) Try.func8
    (ChangeSpec.witness6 (enc := enc) (C := Try.checked) false ⟨#[], #[.slice none 0 0, .slice none 0 0, .int .i64 0, .slice none 0 0], []⟩ 8 (by kernel_rfl) (by kernel_rfl) (by kernel_rfl) (by kernel_rfl)) ?_
  intro W base args ds gs before hval0 hW hcnd _
  have hval : ∀ (j : Nat) t v, Try.f8.params[j]? = some t → args[j]? = some v → Value.okWide Try.prog W .any base t v := hval0
  have hW' := hW
  obtain ⟨p, q, hA0, hV, rfl, hfz, hnd⟩ := hW
  have hA : DataW.TrodAll enc Try.prog W 0 (fun _ => true) true Try.f8.params.toList args.toList ds p := hA0
  rw [Try.params8] at hA hval
  obtain ⟨v0, vs0, d0, ds0, p0, q0, hargs, rfl, rfl, h0, r0⟩ := trodAll_cons hA
  obtain ⟨v1, vs1, d1, ds1, p1, q1, rfl, rfl, rfl, h1, r1⟩ := trodAll_cons r0
  obtain ⟨v2, vs2, d2, ds2, p2, q2, rfl, rfl, rfl, h2, r2⟩ := trodAll_cons r1
  obtain ⟨v3, vs3, d3, ds3, p3, q3, rfl, rfl, rfl, h3, r3⟩ := trodAll_cons r2
  obtain ⟨rfl, rfl, rfl⟩ := trodAll_nil r3
  obtain rfl : args = #[v0, v1, v2, v3] := by cases args; simp_all
  obtain ⟨rfl, rfl⟩ := trodVars_none hV
  obtain ⟨a0, len0, cap0, rfl⟩ := okWide_slice Try.underlying33 (hval 0 33 v0 rfl rfl)
  have k0 := h0
  have lt0 : ∀ x ∈ p0, x.block < W.heap.size := by obtain ⟨m, hm⟩ := k0; exact DataW.trod_lt m _ _ _ hm
  obtain ⟨z0, w0, n0⟩ : ∃ zs, lst.RdZ 6 W W.heap.size a0 len0 zs ∧ len0 ≤ maxLen := by
    obtain ⟨fuel, hf⟩ := h0
    obtain ⟨A, n, c, zs, hcs, hrd, hle⟩ := lsto.open_structs Try.underlying33 Try.underlying23 (by kernel_rfl) (by kernel_rfl) (by decide) (by
        intro j f hg
        match j, hg with
        | 0, hg => exact (Option.some.inj hg) ▸ Try.underlying3
        | 1, hg => exact (Option.some.inj hg) ▸ Try.underlying3
        | 2, hg => exact (Option.some.inj hg) ▸ Try.underlying3
        | 3, hg => exact (Option.some.inj hg) ▸ Try.underlying3
        | 4, hg => exact (Option.some.inj hg) ▸ Try.underlying3
        | 5, hg => exact (Option.some.inj hg) ▸ Try.underlying3
        | q + 6, hg => exact absurd (Array.getElem?_eq_some_iff.1 hg).1 (by simp)) hf
    simp [Value.cells] at hcs
    obtain ⟨rfl, rfl, rfl⟩ := hcs
    exact ⟨zs, hrd, hle⟩
  obtain ⟨a1, len1, cap1, rfl⟩ := okWide_slice Try.underlying34 (hval 1 34 v1 rfl rfl)
  have k1 := h1
  have lt1 : ∀ x ∈ p1, x.block < W.heap.size := by obtain ⟨m, hm⟩ := k1; exact DataW.trod_lt m _ _ _ hm
  obtain ⟨z1, w1, n1⟩ : ∃ zs, lst.RdZ 2 W W.heap.size a1 len1 zs ∧ len1 ≤ maxLen := by
    obtain ⟨fuel, hf⟩ := h1
    obtain ⟨A, n, c, zs, hcs, hrd, hle⟩ := lsto.open_structs Try.underlying34 Try.underlying25 (by kernel_rfl) (by kernel_rfl) (by decide) (by
        intro j f hg
        match j, hg with
        | 0, hg => exact (Option.some.inj hg) ▸ Try.underlying3
        | 1, hg => exact (Option.some.inj hg) ▸ Try.underlying3
        | q + 2, hg => exact absurd (Array.getElem?_eq_some_iff.1 hg).1 (by simp)) hf
    simp [Value.cells] at hcs
    obtain ⟨rfl, rfl, rfl⟩ := hcs
    exact ⟨zs, hrd, hle⟩
  obtain ⟨a2, rfl, rfl, rfl, w2⟩ := open_int Try.underlying3 (hval 2 3 v2 rfl rfl) h2
  obtain ⟨a3, len3, cap3, rfl⟩ := okWide_slice Try.underlying35 (hval 3 35 v3 rfl rfl)
  have k3 := h3
  have lt3 : ∀ x ∈ p3, x.block < W.heap.size := by obtain ⟨m, hm⟩ := k3; exact DataW.trod_lt m _ _ _ hm
  obtain ⟨z3, w3⟩ : ∃ zs, IsRow .i64 W a3 len3 cap3 zs := by
    obtain ⟨fuel, hf⟩ := h3
    rcases open_ints Try.underlying35 Try.underlying3 (by kernel_rfl) hf with ⟨hcs, _⟩ | ⟨x, l, c, zs, hcs, _, hl, hm, hz, _, hcell, hwz⟩
    · simp [Value.cells] at hcs
      obtain ⟨rfl, rfl, rfl⟩ := hcs
      exact ⟨[], .inl ⟨rfl, rfl, rfl, rfl⟩⟩
    · simp [Value.cells] at hcs
      obtain ⟨rfl, rfl, rfl⟩ := hcs
      exact ⟨zs, .inr ⟨_, rfl, hl, hm, by simpa using hz, hcell, hwz⟩⟩
  clear hA0 hval0
  refine (walk a0 len0 cap0 z0 a1 len1 cap1 z1 a2 a3 len3 cap3 z3 W w0 n0 w1 n1 w2 w3).mono fun e W' ⟨he, bel⟩ => ?_
  subst he
  exact ⟨_, rfl, _, _, _, [], _, [], hW', trodAll_mk1 (shut_bool Try.underlying4 _), (trodAll_cons_mk (Below.trod laidOut (by kernel_rfl) (of_decide_eq_true (by kernel_rfl)) k0 bel lt0) (trodAll_cons_mk (Below.trod laidOut (by kernel_rfl) (of_decide_eq_true (by kernel_rfl)) k1 bel lt1) (trodAll_cons_mk (shut_int Try.underlying3 w2) (trodAll_cons_mk (Below.trod laidOut (by kernel_rfl) (of_decide_eq_true (by kernel_rfl)) k3 bel lt3) trodAll_mk0)))), rfl, bel.frame _, fun h => by cases h⟩

theorem over : Rows.fnExactFreePlotsRow.holds Try.pinned (OpenSpec.ofChange Rows.fnExactFreePlotsSpec) :=
  OpenClaim.holds_of_wide 8 Try.f8 rfl rfl rfl rfl rfl rfl rfl ⟨rfl, rfl, rfl, rfl, rfl⟩ rfl rfl rfl rfl rfl (by kernel_rfl) Try.func8 (by kernel_rfl)
    (of_decide_eq_true (by kernel_rfl)) (by unfold Func.isWrapper; first | (rw [if_pos (by decide +kernel)]; kernel_rfl) | (rw [if_neg (by decide +kernel)]; exact ⟨rfl, rfl⟩))
    (fun os started H enc _ => lifted os started H enc)

theorem proved : Rows.FnExactFreePlotsSaid :=
  over
#print axioms proved
end Go.Proofs.Ytedocpocfpopgaa.fnExactFreePlots
