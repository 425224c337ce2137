/- For every slice of tracks, every slice of places and all other arguments the law FnExactIsAssignment returns true: impl.IsAssignment and spec.IsAssignment return the same answer; the arguments are left as they were. No condition. -/
import Derived.Test.YtedocpocfpopgaaRows
import Derived.Test.YtedocpocfpopgaaAsgC
import Derived.Test.YtedocpocfpopgaaAsgU
import Derived.Test.YtedocpocfpopgaaIntC
import Derived.Test.YtedocpocfpopgaaLstO
import Derived.Test.YtedocpocfpopgaaTrkE
import Derived.WalkKit
import Derived.ProofKit
import Derived.OpenShut
import Derived.ShutString
import Derived.ChangeOld
import Derived.Below
import Derived.Lib.SmallJoins
import Derived.Lib.QuietBelow
import Derived.Deep.RegionHeld3
import Derived.Deep.CutRange
namespace Go.Proofs.Ytedocpocfpopgaa.fnExactIsAssignment
open Go.ChangeShapes Go.WideShapes Go.ChangeAt Go.RowKit Go.Joins Go.Proofs.Ytedocpocfpopgaa.ats Go.Proofs.Ytedocpocfpopgaa.ints Go.Proofs.Ytedocpocfpopgaa.lst Go.Proofs.Ytedocpocfpopgaa.intc Go.Proofs.Ytedocpocfpopgaa.code_
open Go.ChangeMaps (open_string shut_string)
set_option linter.unusedVariables false

theorem bool_ne_self (b : Bool) : (b != b) = false := by simp
theorem int_ne_self (x : Int) : (x != x) = false := by simp

/-- The function f returns this. -/
def Gives (f : Nat) (z0 : List Int) (n0 : Nat) (z1 : List Int) (n1 : Nat) (z3 : List Int) (n3 : Nat) (a2 : Int) (O0 : Bool) : Prop := ∀ (A0 : Option Addr) (c0 : Nat) (A1 : Option Addr) (c1 : Nat) (A3 : Option Addr) (c3 : Nat) (w : World), n0 ≤ c0 → n1 ≤ c1 → n3 ≤ c3 → RdZ 6 w w.heap.size A0 n0 z0 → RdZ 2 w w.heap.size A1 n1 z1 → RdI w w.heap.size A3 n3 z3 → 
  Calls Try.prog f #[.slice A0 n0 c0, .slice A1 n1 c1, .int .i64 a2, .slice A3 n3 c3] w fun e w' => e = .returned (.bool O0) ∧ Below w.heap.size w w'

set_option maxRecDepth 100000 in
set_option maxHeartbeats 8000000 in
theorem law_of (a0 : Option Addr) (c0 : Nat) (a1 : Option Addr) (c1 : Nat) (a3 : Option Addr) (c3 : Nat) (z0 : List Int) (n0 : Nat) (z1 : List Int) (n1 : Nat) (z3 : List Int) (n3 : Nat) (a2 : Int) (O0 : Bool) (w : World) (hn0 : n0 ≤ 1048576) (hr0 : RdZ 6 w w.heap.size a0 n0 z0) (hn1 : n1 ≤ 1048576) (hr1 : RdZ 2 w w.heap.size a1 n1 z1) (hn3 : n3 ≤ 1048576) (hr3 : RdI w w.heap.size a3 n3 z3) (hsum : n0 + n1 ≤ 1048576)
    (hs : Gives 17 z0 n0 z1 n1 z3 n3 a2 O0) (hi : Gives 21 z0 n0 z1 n1 z3 n3 a2 O0) :
    Calls Try.prog 4 #[.slice a0 n0 c0, .slice a1 n1 c1, .int .i64 a2, .slice a3 n3 c3] w fun e w' => e = .returned (.bool true) ∧ Below w.heap.size w w' := by
  have HZ0 := Lib.hid (fun w => trke.sz a0 n0 c0 w (by unfold maxLen; omega))
  rw [if_pos hn0] at HZ0
  have d0 : decide ((1048576 : Int) - (n0 : Int) < 0) = false := decide_eq_false (by omega)
  have HC0 := Lib.hid (fun (w' : World) (hb : Below w.heap.size w w') => trke.copyS z0 a0 n0 c0 w' hn0 (hr0.next hb))
  have HL0 := Lib.hid hr0.1
  have HZ1 := Lib.hid (fun w => plce.szL a1 n1 c1 (1048576 - (n0 : Int)) w (by unfold maxLen; omega) (by omega) (by omega))
  rw [if_pos (by omega)] at HZ1
  have d1 : decide ((1048576 : Int) - (n0 : Int) - (n1 : Int) < 0) = false := decide_eq_false (by omega)
  have HC1 := Lib.hid (fun (w' : World) (hb : Below w.heap.size w w') => plce.copyS z1 a1 n1 c1 w' hn1 (hr1.next hb))
  have HL1 := Lib.hid hr1.1
  have d3 : ¬ (1048576 : Int) < (n3 : Int) := by omega
  have HC3 := Lib.hid (fun (w' : World) (hb : Below w.heap.size w w') => intc.copyI z3 a3 n3 c3 w' hn3 (hr3.next hb))
  have HL3 := Lib.hid hr3.1
  have HS := Lib.hid (fun (A0 : Option Addr) (c0 : Nat) (A1 : Option Addr) (c1 : Nat) (A3 : Option Addr) (c3 : Nat) (w : World) (e0 : n0 ≤ c0) (e1 : n1 ≤ c1) (e3 : n3 ≤ c3) (h0 : RdZ 6 w w.heap.size A0 n0 z0) (h1 : RdZ 2 w w.heap.size A1 n1 z1) (h3 : RdI w w.heap.size A3 n3 z3) => hs A0 c0 A1 c1 A3 c3 w e0 e1 e3 h0 h1 h3)
  have HI := Lib.hid (fun (A0 : Option Addr) (c0 : Nat) (A1 : Option Addr) (c1 : Nat) (A3 : Option Addr) (c3 : Nat) (w : World) (e0 : n0 ≤ c0) (e1 : n1 ≤ c1) (e3 : n3 ≤ c3) (h0 : RdZ 6 w w.heap.size A0 n0 z0) (h1 : RdZ 2 w w.heap.size A1 n1 z1) (h3 : RdI w w.heap.size A3 n3 z3) => hi A0 c0 A1 c1 A3 c3 w e0 e1 e3 h0 h1 h3)
  have ne0 := bool_ne_self O0
  clear hs hi hr0 hr1 hr3
  go_enter Try.func4, Try.ntmps4
  go_wp2_with fail
  refine (HZ0.out w).mono ?_
  rintro e w' ⟨rfl, rfl⟩
  go_wp2_with fail
  refine (HZ1.out w).mono ?_
  rintro e w' ⟨rfl, rfl⟩
  have AN1 := Lib.hid (Below.refl w.heap.size w)
  go_wp2_with fail
  refine (HC0.out w AN1.out).mono ?_
  rintro e V2 ⟨g5, rfl, ho4, h3⟩
  have AN6 := Lib.hid (AN1.out.trans (h3.mono AN1.out.size))
  clear AN1
  have rd7 := Lib.hid (RdZ.of_own ho4 HL0.out)
  clear h3 ho4
  go_wp2_with fail
  refine (HC1.out V2 AN6.out).mono ?_
  rintro e V8 ⟨g11, rfl, ho10, h9⟩
  have AN12 := Lib.hid (AN6.out.trans (h9.mono AN6.out.size))
  clear AN6
  have rd13 := Lib.hid (rd7.out.next h9)
  clear rd7
  have rd14 := Lib.hid (RdZ.of_own ho10 HL1.out)
  clear h9 ho10
  go_wp2_with fail
  refine (HC3.out V8 AN12.out).mono ?_
  rintro e V15 ⟨g18, rfl, ho17, h16⟩
  have AN19 := Lib.hid (AN12.out.trans (h16.mono AN12.out.size))
  clear AN12
  have rd20 := Lib.hid (rd13.out.next h16)
  clear rd13
  have rd21 := Lib.hid (rd14.out.next h16)
  clear rd14
  have rd22 := Lib.hid (intc.rd_of_own ho17 HL3.out)
  clear h16 ho17
  go_wp2_with fail
  refine (HS.out _ _ _ _ _ _ V15 (Nat.le_refl _) (Nat.le_refl _) (Nat.le_refl _) rd20.out rd21.out rd22.out).mono ?_
  rintro e V23 ⟨rfl, h24⟩
  clear rd20 rd21 rd22
  have AN26 := Lib.hid (AN19.out.trans (h24.mono AN19.out.size))
  clear AN19
  clear h24
  go_wp2_with fail
  refine (HC0.out V23 AN26.out).mono ?_
  rintro e V27 ⟨g30, rfl, ho29, h28⟩
  have LE31 := Lib.hid AN26.out.size
  have AN32 := Lib.hid (AN26.out.trans (h28.mono AN26.out.size))
  clear AN26
  have rd33 := Lib.hid (RdZ.of_own ho29 HL0.out)
  have OW34 := Lib.hid ho29
  have LT35 := Lib.hid (own_row_lt ho29)
  have AN36 := Lib.hid (Below.refl V27.heap.size V27)
  clear h28 ho29
  go_wp2_with fail
  refine (HC1.out V27 AN32.out).mono ?_
  rintro e V37 ⟨g40, rfl, ho39, h38⟩
  have LE41 := Lib.hid AN32.out.size
  have LE42 := Lib.hid AN36.out.size
  have AN43 := Lib.hid (AN32.out.trans (h38.mono AN32.out.size))
  clear AN32
  have AN44 := Lib.hid (AN36.out.trans (h38.mono AN36.out.size))
  clear AN36
  have OW45 := Lib.hid (own_.own_below OW34.out h38)
  clear OW34
  have rd46 := Lib.hid (RdZ.of_own ho39 HL1.out)
  have OW47 := Lib.hid ho39
  have LT48 := Lib.hid (own_row_lt ho39)
  have AN49 := Lib.hid (Below.refl V37.heap.size V37)
  clear h38 ho39
  go_wp2_with fail
  refine (HC3.out V37 AN43.out).mono ?_
  rintro e V50 ⟨g53, rfl, ho52, h51⟩
  have LE54 := Lib.hid AN43.out.size
  have LE55 := Lib.hid AN44.out.size
  have LE56 := Lib.hid AN49.out.size
  have AN57 := Lib.hid (AN43.out.trans (h51.mono AN43.out.size))
  clear AN43
  have AN58 := Lib.hid (AN44.out.trans (h51.mono AN44.out.size))
  clear AN44
  have AN59 := Lib.hid (AN49.out.trans (h51.mono AN49.out.size))
  clear AN49
  have OW60 := Lib.hid (own_.own_below OW45.out h51)
  clear OW45
  have OW61 := Lib.hid (own_.own_below OW47.out h51)
  clear OW47
  have rd62 := Lib.hid (intc.rd_of_own ho52 HL3.out)
  have OW63 := Lib.hid ho52
  have LT64 := Lib.hid (own_row_lt ho52)
  have AN65 := Lib.hid (Below.refl V50.heap.size V50)
  clear h51 ho52
  have rd66 := Lib.hid (RdZ.of_own OW60.out HL0.out)
  have rd67 := Lib.hid (RdZ.of_own OW61.out HL1.out)
  have rd68 := Lib.hid (intc.rd_of_own OW63.out HL3.out)
  have LE69 := Lib.hid AN57.out.size
  have LE70 := Lib.hid AN58.out.size
  have LE71 := Lib.hid AN59.out.size
  have LE72 := Lib.hid AN65.out.size
  go_wp2_with fail
  refine (HI.out _ _ _ _ _ _ V50 (Nat.le_refl _) (Nat.le_refl _) (Nat.le_refl _) rd66.out rd67.out rd68.out).mono ?_
  rintro e V73 ⟨rfl, h74⟩
  clear rd66 rd67 rd68
  have AN76 := Lib.hid (AN57.out.trans (h74.mono AN57.out.size))
  clear AN57
  have AN77 := Lib.hid (AN58.out.trans (h74.mono AN58.out.size))
  clear AN58
  have AN78 := Lib.hid (AN59.out.trans (h74.mono AN59.out.size))
  clear AN59
  have AN79 := Lib.hid (AN65.out.trans (h74.mono AN65.out.size))
  clear AN65
  have OW80 := Lib.hid (own_.own_below OW60.out h74)
  clear OW60
  have OW81 := Lib.hid (own_.own_below OW61.out h74)
  clear OW61
  have OW82 := Lib.hid (own_.own_below OW63.out h74)
  clear OW63
  clear h74
  clear AN77
  clear AN78
  clear AN79
  go_wp2_with fail
  refine (HC0.out V73 AN76.out).mono ?_
  rintro e V83 ⟨g86, rfl, ho85, h84⟩
  have AN87 := Lib.hid (AN76.out.trans (h84.mono AN76.out.size))
  clear AN76
  have OW88 := Lib.hid (own_.own_below OW80.out h84)
  clear OW80
  have OW89 := Lib.hid (own_.own_below OW81.out h84)
  clear OW81
  have OW90 := Lib.hid (own_.own_below OW82.out h84)
  clear OW82
  have rd91 := Lib.hid (RdZ.of_own ho85 HL0.out)
  clear h84 ho85
  have E92 := Lib.hid (trke.eqS z0 _ _ n0 n0 n0 V83 (by omega) (RdZ.of_own OW88.out HL0.out) rd91.out)
  clear rd91
  go_wp2_with fail
  refine E92.out.mono ?_
  rintro e V93 ⟨rfl, h94⟩
  clear E92
  have AN95 := Lib.hid (AN87.out.trans (h94.mono AN87.out.size))
  clear AN87
  have OW96 := Lib.hid (own_.own_below OW88.out h94)
  clear OW88
  have OW97 := Lib.hid (own_.own_below OW89.out h94)
  clear OW89
  have OW98 := Lib.hid (own_.own_below OW90.out h94)
  clear OW90
  clear h94
  go_wp2_with fail
  refine (HC1.out V93 AN95.out).mono ?_
  rintro e V99 ⟨g102, rfl, ho101, h100⟩
  have AN103 := Lib.hid (AN95.out.trans (h100.mono AN95.out.size))
  clear AN95
  have OW104 := Lib.hid (own_.own_below OW96.out h100)
  clear OW96
  have OW105 := Lib.hid (own_.own_below OW97.out h100)
  clear OW97
  have OW106 := Lib.hid (own_.own_below OW98.out h100)
  clear OW98
  have rd107 := Lib.hid (RdZ.of_own ho101 HL1.out)
  clear h100 ho101
  have E108 := Lib.hid (plce.eqS z1 _ _ n1 n1 n1 V99 (by omega) (RdZ.of_own OW105.out HL1.out) rd107.out)
  clear rd107
  go_wp2_with fail
  refine E108.out.mono ?_
  rintro e V109 ⟨rfl, h110⟩
  clear E108
  have AN111 := Lib.hid (AN103.out.trans (h110.mono AN103.out.size))
  clear AN103
  have OW112 := Lib.hid (own_.own_below OW104.out h110)
  clear OW104
  have OW113 := Lib.hid (own_.own_below OW105.out h110)
  clear OW105
  have OW114 := Lib.hid (own_.own_below OW106.out h110)
  clear OW106
  clear h110
  go_wp2_with fail
  refine (HC3.out V109 AN111.out).mono ?_
  rintro e V115 ⟨g118, rfl, ho117, h116⟩
  have AN119 := Lib.hid (AN111.out.trans (h116.mono AN111.out.size))
  clear AN111
  have OW120 := Lib.hid (own_.own_below OW112.out h116)
  clear OW112
  have OW121 := Lib.hid (own_.own_below OW113.out h116)
  clear OW113
  have OW122 := Lib.hid (own_.own_below OW114.out h116)
  clear OW114
  have rd123 := Lib.hid (intc.rd_of_own ho117 HL3.out)
  clear h116 ho117
  have E124 := Lib.hid (ints.eq_same z3 _ _ n3 n3 n3 V115 (by omega) (intc.rd_of_own OW122.out HL3.out) rd123.out)
  clear rd123
  go_wp2_with fail
  refine E124.out.mono ?_
  rintro e wx ⟨rfl, j125, rfl⟩
  clear E124
  have AN127 := Lib.hid (aid.below_drewN AN119.out j125)
  clear AN119
  have OW128 := Lib.hid (own_.own_drewN OW120.out j125)
  clear OW120
  have OW129 := Lib.hid (own_.own_drewN OW121.out j125)
  clear OW121
  have OW130 := Lib.hid (own_.own_drewN OW122.out j125)
  clear OW122
  generalize V115.drewN j125 = V126 at *
  go_wp2_with fail
  go_ret
  exact ⟨rfl, AN127.out⟩

set_option maxRecDepth 100000 in
theorem walk (a0 : Option Addr) (n0 c0 : Nat) (z0 : List Int) (a1 : Option Addr) (n1 c1 : Nat) (z1 : List Int) (a2 : Int) (a3 : Option Addr) (n3 c3 : Nat) (z3 : List Int) (w : World) (w0 : RdZ 6 w w.heap.size a0 n0 z0) (l0 : n0 ≤ maxLen) (w1 : RdZ 2 w w.heap.size a1 n1 z1) (l1 : n1 ≤ maxLen) (w2 : (Lit.int .i64 a2).wf = true) (w3 : IsRow .i64 w a3 n3 c3 z3) :
    Calls Try.prog 4 #[.slice a0 n0 c0, .slice a1 n1 c1, .int .i64 a2, .slice a3 n3 c3] w fun e w' => e = .returned (.bool true) ∧ Below w.heap.size w w' := by
  by_cases hn3 : (1048576 : Int) < (n3 : Int)
  · clear w0 l0 w1 l1 w2 w3
    go_enter Try.func4, Try.ntmps4
    go_wp2_with fail
    go_ret
    exact ⟨rfl, Below.refl _ _⟩
  obtain ⟨q3, -, -⟩ := intc.rd_of_row w3
  by_cases hn0 : n0 ≤ 1048576
  · skip
    by_cases hn1 : n0 + n1 ≤ 1048576
    · skip
      have hn3 : n3 ≤ 1048576 := by omega
      exact law_of a0 c0 a1 c1 a3 c3 z0 n0 z1 n1 (z3.take n3) n3 a2 (asg.agB z0 n0 z1 n1 a2 (z3.take n3) n3) w hn0 w0 (show n1 ≤ 1048576 by omega) w1 hn3 q3 hn1
        (fun A0 c0 A1 c1 A3 c3 w hc0 hc1 hc3 h0 h1 h3 => asgu.isAssignment z0 z1 (z3.take n3) a2 A0 A1 A3 n0 c0 n1 c1 n3 c3 w (by omega) (by omega) (by omega) hc3 h0 h1 h3)
        (fun A0 c0 A1 c1 A3 c3 w hc0 hc1 hc3 h0 h1 h3 => asgc.isAssignment z0 z1 (z3.take n3) a2 A0 A1 A3 n0 c0 n1 c1 n3 c3 w (by omega) (by omega) (by omega) hc3 h0 h1 h3)
    · have HZ1 := Lib.hid (fun w => plce.szL a1 n1 c1 (1048576 - (n0 : Int)) w l1 (by omega) (by omega))
      rw [if_neg (by omega)] at HZ1
      have HZ0 := Lib.hid (trke.sz a0 n0 c0 w l0)
      rw [if_pos hn0] at HZ0
      have d0 : decide ((1048576 : Int) - (n0 : Int) < 0) = false := decide_eq_false (by omega)
      clear w0 l0 w1 l1 w2 w3 q3 hn1
      go_enter Try.func4, Try.ntmps4
      go_wp2_with fail
      refine (HZ0.out).mono ?_
      rintro e w' ⟨rfl, rfl⟩
      go_wp2_with fail
      refine (HZ1.out _).mono ?_
      rintro e w' ⟨rfl, rfl⟩
      go_wp2_with fail
      go_ret
      exact ⟨rfl, Below.refl _ _⟩
  · have HZ0 := Lib.hid (trke.sz a0 n0 c0 w l0)
    rw [if_neg hn0] at HZ0
    clear w0 l0 w1 l1 w2 w3 q3 hn0
    go_enter Try.func4, Try.ntmps4
    go_wp2_with fail
    refine (HZ0.out).mono ?_
    rintro e w' ⟨rfl, rfl⟩
    go_wp2_with fail
    go_ret
    exact ⟨rfl, Below.refl _ _⟩


theorem own : ownKnob Try.prog.godebug = none := by kernel_rfl
theorem laidOut : laidOutB Try.prog = true := by kernel_rfl

set_option maxRecDepth 100000 in
theorem lifted (os : Os) (started : os.Started) (H : Type) (enc : TypeId × Value → H) :
    ReturnsInHanded {} Try.checked os 4 .any (Rows.fnExactIsAssignmentSpec.pre6 enc Try.prog Try.f4 Rows.fnExactIsAssignmentRow.domain false) (Rows.fnExactIsAssignmentSpec.post enc Try.prog Try.f4 false true false false) := by
  refine returnsInHanded_of_change (C := Try.checked) own started (by kernel_rfl) Try.func4
    (ChangeSpec.witness6 (enc := enc) (C := Try.checked) false ⟨#[], #[.slice none 0 0, .slice none 0 0, .int .i64 0, .slice none 0 0], []⟩ 8 (by kernel_rfl) (by kernel_rfl) (by kernel_rfl) (by kernel_rfl)) ?_
  intro W base args ds gs before hval0 hW hcnd _
  have hval : ∀ (j : Nat) t v, Try.f4.params[j]? = some t → args[j]? = some v → Value.okWide Try.prog W .any base t v := hval0
  have hW' := hW
  obtain ⟨p, q, hA0, hV, rfl, hfz, hnd⟩ := hW
  have hA : DataW.TrodAll enc Try.prog W 0 (fun _ => true) true Try.f4.params.toList args.toList ds p := hA0
  rw [Try.params4] at hA hval
  obtain ⟨v0, vs0, d0, ds0, p0, q0, hargs, rfl, rfl, h0, r0⟩ := trodAll_cons hA
  obtain ⟨v1, vs1, d1, ds1, p1, q1, rfl, rfl, rfl, h1, r1⟩ := trodAll_cons r0
  obtain ⟨v2, vs2, d2, ds2, p2, q2, rfl, rfl, rfl, h2, r2⟩ := trodAll_cons r1
  obtain ⟨v3, vs3, d3, ds3, p3, q3, rfl, rfl, rfl, h3, r3⟩ := trodAll_cons r2
  obtain ⟨rfl, rfl, rfl⟩ := trodAll_nil r3
  obtain rfl : args = #[v0, v1, v2, v3] := by cases args; simp_all
  obtain ⟨rfl, rfl⟩ := trodVars_none hV
  obtain ⟨a0, len0, cap0, rfl⟩ := okWide_slice Try.underlying33 (hval 0 33 v0 rfl rfl)
  have k0 := h0
  have lt0 : ∀ x ∈ p0, x.block < W.heap.size := by obtain ⟨m, hm⟩ := k0; exact DataW.trod_lt m _ _ _ hm
  obtain ⟨z0, w0, n0⟩ : ∃ zs, lst.RdZ 6 W W.heap.size a0 len0 zs ∧ len0 ≤ maxLen := by
    obtain ⟨fuel, hf⟩ := h0
    obtain ⟨A, n, c, zs, hcs, hrd, hle⟩ := lsto.open_structs Try.underlying33 Try.underlying23 (by kernel_rfl) (by kernel_rfl) (by decide) (by
        intro j f hg
        match j, hg with
        | 0, hg => exact (Option.some.inj hg) ▸ Try.underlying3
        | 1, hg => exact (Option.some.inj hg) ▸ Try.underlying3
        | 2, hg => exact (Option.some.inj hg) ▸ Try.underlying3
        | 3, hg => exact (Option.some.inj hg) ▸ Try.underlying3
        | 4, hg => exact (Option.some.inj hg) ▸ Try.underlying3
        | 5, hg => exact (Option.some.inj hg) ▸ Try.underlying3
        | q + 6, hg => exact absurd (Array.getElem?_eq_some_iff.1 hg).1 (by simp)) hf
    simp [Value.cells] at hcs
    obtain ⟨rfl, rfl, rfl⟩ := hcs
    exact ⟨zs, hrd, hle⟩
  obtain ⟨a1, len1, cap1, rfl⟩ := okWide_slice Try.underlying34 (hval 1 34 v1 rfl rfl)
  have k1 := h1
  have lt1 : ∀ x ∈ p1, x.block < W.heap.size := by obtain ⟨m, hm⟩ := k1; exact DataW.trod_lt m _ _ _ hm
  obtain ⟨z1, w1, n1⟩ : ∃ zs, lst.RdZ 2 W W.heap.size a1 len1 zs ∧ len1 ≤ maxLen := by
    obtain ⟨fuel, hf⟩ := h1
    obtain ⟨A, n, c, zs, hcs, hrd, hle⟩ := lsto.open_structs Try.underlying34 Try.underlying25 (by kernel_rfl) (by kernel_rfl) (by decide) (by
        intro j f hg
        match j, hg with
        | 0, hg => exact (Option.some.inj hg) ▸ Try.underlying3
        | 1, hg => exact (Option.some.inj hg) ▸ Try.underlying3
        | q + 2, hg => exact absurd (Array.getElem?_eq_some_iff.1 hg).1 (by simp)) hf
    simp [Value.cells] at hcs
    obtain ⟨rfl, rfl, rfl⟩ := hcs
    exact ⟨zs, hrd, hle⟩
  obtain ⟨a2, rfl, rfl, rfl, w2⟩ := open_int Try.underlying3 (hval 2 3 v2 rfl rfl) h2
  obtain ⟨a3, len3, cap3, rfl⟩ := okWide_slice Try.underlying35 (hval 3 35 v3 rfl rfl)
  have k3 := h3
  have lt3 : ∀ x ∈ p3, x.block < W.heap.size := by obtain ⟨m, hm⟩ := k3; exact DataW.trod_lt m _ _ _ hm
  obtain ⟨z3, w3⟩ : ∃ zs, IsRow .i64 W a3 len3 cap3 zs := by
    obtain ⟨fuel, hf⟩ := h3
    rcases open_ints Try.underlying35 Try.underlying3 (by kernel_rfl) hf with ⟨hcs, _⟩ | ⟨x, l, c, zs, hcs, _, hl, hm, hz, _, hcell, hwz⟩
    · simp [Value.cells] at hcs
      obtain ⟨rfl, rfl, rfl⟩ := hcs
      exact ⟨[], .inl ⟨rfl, rfl, rfl, rfl⟩⟩
    · simp [Value.cells] at hcs
      obtain ⟨rfl, rfl, rfl⟩ := hcs
      exact ⟨zs, .inr ⟨_, rfl, hl, hm, by simpa using hz, hcell, hwz⟩⟩
  clear hA0 hval0
  refine (walk a0 len0 cap0 z0 a1 len1 cap1 z1 a2 a3 len3 cap3 z3 W w0 n0 w1 n1 w2 w3).mono fun e W' ⟨he, bel⟩ => ?_
  subst he
  exact ⟨_, rfl, _, _, _, [], _, [], hW', trodAll_mk1 (shut_bool Try.underlying4 _), (trodAll_cons_mk (Below.trod laidOut (by kernel_rfl) (of_decide_eq_true (by kernel_rfl)) k0 bel lt0) (trodAll_cons_mk (Below.trod laidOut (by kernel_rfl) (of_decide_eq_true (by kernel_rfl)) k1 bel lt1) (trodAll_cons_mk (shut_int Try.underlying3 w2) (trodAll_cons_mk (Below.trod laidOut (by kernel_rfl) (of_decide_eq_true (by kernel_rfl)) k3 bel lt3) trodAll_mk0)))), rfl, bel.frame _, fun h => by cases h⟩

theorem over : Rows.fnExactIsAssignmentRow.holds Try.pinned (OpenSpec.ofChange Rows.fnExactIsAssignmentSpec) :=
  OpenClaim.holds_of_wide 4 Try.f4 rfl rfl rfl rfl rfl rfl rfl ⟨rfl, rfl, rfl, rfl, rfl⟩ rfl rfl rfl rfl rfl (by kernel_rfl) Try.func4 (by kernel_rfl)
    (of_decide_eq_true (by kernel_rfl)) (by unfold Func.isWrapper; first | (rw [if_pos (by decide +kernel)]; kernel_rfl) | (rw [if_neg (by decide +kernel)]; exact ⟨rfl, rfl⟩))
    (fun os started H enc _ => lifted os started H enc)

theorem proved : Rows.FnExactIsAssignmentSaid :=
  over
#print axioms proved
end Go.Proofs.Ytedocpocfpopgaa.fnExactIsAssignment
