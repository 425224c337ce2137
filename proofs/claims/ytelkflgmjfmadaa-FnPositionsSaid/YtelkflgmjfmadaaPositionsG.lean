/- For every code of at most 65536 bytes (and trivially for a longer one) the law FnPositions returns true: reports of places and decoded pairs are those of the model; a valid place is recovered from its even and odd report, is the nearest one to itself and the only one that did not move; every place that a moved pair allows has the second report and is near the place that the first one gives. No condition of mine. -/
import Derived.Test.YtelkflgmjfmadaaRows
import Derived.Test.YtelkflgmjfmadaaDrawT7
import Derived.Test.YtelkflgmjfmadaaDrawU7
import Derived.Test.YtelkflgmjfmadaaPosG
import Derived.Test.YtelkflgmjfmadaaPosE
import Derived.Test.YtelkflgmjfmadaaPosV
import Derived.Test.YtelkflgmjfmadaaPosY
import Derived.Test.YtelkflgmjfmadaaCode
import Derived.WalkKit
import Derived.ProofKit
import Derived.OpenShut
import Derived.ShutString
import Derived.ChangeOld
import Derived.Below
import Derived.BigQuiet
import Derived.Deep.QuietTactic
namespace Go.Proofs.Ytelkflgmjfmadaa.fnPositions
open Go.ChangeShapes Go.WideShapes Go.ChangeAt Go.RowKit
open Go.ChangeMaps (open_string shut_string)
open Go.Proofs.Ytelkflgmjfmadaa.code_ Go.Proofs.Ytelkflgmjfmadaa.cur Go.Proofs.Ytelkflgmjfmadaa.ats Go.Proofs.Ytelkflgmjfmadaa.pos Go.Proofs.Ytelkflgmjfmadaa.lst Go.Proofs.Ytelkflgmjfmadaa.ints
set_option linter.unusedVariables false

theorem bool_ne_self (b : Bool) : (b != b) = false := by simp
theorem int_ne_self (b : Int) : (b != b) = false := by simp
theorem int_eq_self (b : Int) : (b == b) = true := by simp
theorem bool_eq_self (b : Bool) : (b == b) = true := by simp

set_option maxRecDepth 100000 in
set_option maxHeartbeats 16000000 in
theorem walk (A : Option Addr) (n c : Nat) (z : List Int) (w : World) (w0 : IsRow .u8 w A n c z) :
    Calls Try.prog 3 #[.slice A n c] w fun e w' => e = .returned (.bool true) ∧ Below w.heap.size w w' := by
  obtain ⟨hby, hnc, -⟩ := bytes_of w0
  clear w0
  have hv := Lib.hid (fun w => vBig A n c w)
  by_cases hbig : (65536 : Int) < (n : Int)
  · clear hby
    go_enter Try.func3, Try.ntmps3
    go_wp2_with fail
    refine (hv.out _).mono ?_
    rintro e w1 ⟨rfl, rfl⟩
    go_wp2_with fail
    go_ret
    exact ⟨rfl, Below.refl _ _⟩
  · have hd : decide ((65536 : Int) < (n : Int)) = false := by simpa using hbig
    have hn : n ≤ 65536 := by omega
    have H := Lib.hid hby
    clear hby hbig hnc
    have HB0 := Lib.hid (Below.refl w.heap.size w)
    go_enter Try.func3, Try.ntmps3
    go_wp2_with fail
    refine (hv.out _).mono ?_
    rintro e wx ⟨rfl, rfl⟩
    clear hd hv
    go_wp2_with fail
    refine (drawq7.reportOf A n c _ hn (Bytes_below H.out HB0.out)).mono ?_
    rintro e V1 ⟨x, y, o, rfl, h1⟩
    have HB1 := Lib.hid (HB0.out.trans (h1.mono HB0.out.size))
    clear HB0 h1
    have RI := Lib.hid (fun w => posk.reportOf x y o w)
    have RS := Lib.hid (fun w => post.reportOf x y o w)
    have VP := Lib.hid (fun w => posj.isValidPlace x y w)
    have HT := Lib.hid (fun (h : pB x y = true) => show o = roO x y o ∧ x % sz o = roV x y x o ∧ y % sz o = roV x y y o from ⟨(posg.own_report o h).1.symm, (posg.own_report o h).2.1.symm, (posg.own_report o h).2.2.symm⟩)
    have HR := Lib.hid (fun (h : pB x y = true) w => posg.report (!o) h w)
    have HD := Lib.hid (fun (h : pB x y = true) w => posg.pair h w)
    have HN := Lib.hid (fun (h : pB x y = true) w => posg.near o h w)
    have HM := Lib.hid (fun (h : pB x y = true) w => posg.moved o h w)
    have g1 := bool_ne_self (roO x y o)
    have g2 := int_ne_self (roV x y x o)
    have g3 := int_ne_self (roV x y y o)
    have g4 := bool_ne_self (pB x y)
    generalize roO x y o = u at *
    generalize roV x y x o = v at *
    generalize roV x y y o = t at *
    generalize pB x y = k1 at *
    have P2 := Lib.hid (newS 25 #[.int .i64 x, .int .i64 y] V1)
    have HB2a := Lib.hid (HB1.out.alloc HB1.out.size (.cells #[.int .i64 x, .int .i64 y] 25))
    clear HB1
    go_wp2_with fail
    generalize (V1.alloc (.cells #[.int .i64 x, .int .i64 y] 25)) = V3 at *
    generalize V1.heap.size = b3 at *
    refine (RI.out V3).mono ?_
    rintro e V4 ⟨rfl, h4⟩
    have HB4 := Lib.hid (HB2a.out.trans (h4.mono HB2a.out.size))
    have P4 := Lib.hid (P2.out.old h4)
    clear HB2a P2 h4
    have R5 := Lib.hid (newS 29 #[.bool u, .int .i64 v, .int .i64 t] V4)
    have P5a := Lib.hid (P4.out.alloc (.cells #[.bool u, .int .i64 v, .int .i64 t] 29))
    clear P4
    have HB5a := Lib.hid (HB4.out.alloc HB4.out.size (.cells #[.bool u, .int .i64 v, .int .i64 t] 29))
    clear HB4
    have p0_ : (V4.alloc (.cells #[.bool u, .int .i64 v, .int .i64 t] 29)).cell? ⟨b3, 0, none⟩ = some (.int .i64 x) := P5a.out.cell 0
    have p1_ : (V4.alloc (.cells #[.bool u, .int .i64 v, .int .i64 t] 29)).cell? ⟨b3, 1, none⟩ = some (.int .i64 y) := P5a.out.cell 1
    have plt_ := P5a.out.2.2.1
    go_wp2_with fail
    clear p0_ p1_ plt_
    generalize (V4.alloc (.cells #[.bool u, .int .i64 v, .int .i64 t] 29)) = V6 at *
    generalize V4.heap.size = b6 at *
    refine (RS.out V6).mono ?_
    rintro e V7 ⟨rfl, h7⟩
    have HB7 := Lib.hid (HB5a.out.trans (h7.mono HB5a.out.size))
    have P7 := Lib.hid (P5a.out.old h7)
    have R7 := Lib.hid (R5.out.old h7)
    clear HB5a P5a R5 h7
    have S8 := Lib.hid (newS 29 #[.bool u, .int .i64 v, .int .i64 t] V7)
    have P8a := Lib.hid (P7.out.alloc (.cells #[.bool u, .int .i64 v, .int .i64 t] 29))
    clear P7
    have R8a := Lib.hid (R7.out.alloc (.cells #[.bool u, .int .i64 v, .int .i64 t] 29))
    clear R7
    have HB8a := Lib.hid (HB7.out.alloc HB7.out.size (.cells #[.bool u, .int .i64 v, .int .i64 t] 29))
    clear HB7
    go_upto_region 6 with fail
    generalize (V7.alloc (.cells #[.bool u, .int .i64 v, .int .i64 t] 29)) = V9 at *
    generalize V7.heap.size = b9 at *
    have BR10 := Lib.hid (Below.refl V9.heap.size V9)
    go_cut [69] from 56 to 68 (fun p100 wz => p100 = .bool false ∧ Below V9.heap.size V9 wz)
    case first =>
      have r0_ : V9.cell? ⟨b6, 0, none⟩ = some (.bool u) := R8a.out.cell 0
      have r1_ : V9.cell? ⟨b6, 1, none⟩ = some (.int .i64 v) := R8a.out.cell 1
      have r2_ : V9.cell? ⟨b6, 2, none⟩ = some (.int .i64 t) := R8a.out.cell 2
      have rlt_ := R8a.out.2.2.1
      have s0_ : V9.cell? ⟨b9, 0, none⟩ = some (.bool u) := S8.out.cell 0
      have s1_ : V9.cell? ⟨b9, 1, none⟩ = some (.int .i64 v) := S8.out.cell 1
      have s2_ : V9.cell? ⟨b9, 2, none⟩ = some (.int .i64 t) := S8.out.cell 2
      have slt_ := S8.out.2.2.1
      have p0_ : V9.cell? ⟨b3, 0, none⟩ = some (.int .i64 x) := P8a.out.cell 0
      have p1_ : V9.cell? ⟨b3, 1, none⟩ = some (.int .i64 y) := P8a.out.cell 1
      have plt_ := P8a.out.2.2.1
      go_wp2_with fail
      clear r0_ r1_ r2_ rlt_ s0_ s1_ s2_ slt_ p0_ p1_ plt_
      refine (VP.out V9).mono ?_
      rintro e V11 ⟨rfl, h11⟩
      have HB11 := Lib.hid (HB8a.out.trans (h11.mono HB8a.out.size))
      have P11 := Lib.hid (P8a.out.old h11)
      have R11 := Lib.hid (R8a.out.old h11)
      have S11 := Lib.hid (S8.out.old h11)
      have BR12m := Lib.hid (BR10.out.trans (h11.mono BR10.out.size))
      clear HB8a P8a R8a S8 BR10 h11
      go_wp2_with fail
      go_meet
      exact ⟨rfl, BR12m.out⟩
    case rest =>
      obtain ⟨rfl, hg10⟩ := hcut
      have HB10c := Lib.hid (HB8a.out.trans (hg10.mono HB8a.out.size))
      have P10c := Lib.hid (P8a.out.old hg10)
      have R10c := Lib.hid (R8a.out.old hg10)
      have S10c := Lib.hid (S8.out.old hg10)
      clear HB8a P8a R8a S8 hg10 BR10
      generalize wc = V13 at *
      clear RI RS VP g1 g2 g3 g4
      go_upto_if 70 with fail
      have BR14 := Lib.hid (Below.refl V13.heap.size V13)
      go_cut [9, 10, 11, 12, 13, 14, 15, 16, 17, 18] from 71 to 136 (fun p140 p141 p142 p143 p144 p145 p146 p147 p148 p149 wz => Below V13.heap.size V13 wz)
      case first =>
        cases k1
        · go_wp2_with fail
          go_meet
          exact BR14.out
        · skip
          obtain ⟨rfl, rfl, rfl⟩ := HT.out (by first | trivial | rfl)
          have HR1 := Lib.hid (HR.out (by first | trivial | rfl))
          have HD1 := Lib.hid (HD.out (by first | trivial | rfl))
          have HN1 := Lib.hid (HN.out (by first | trivial | rfl))
          have HM1 := Lib.hid (HM.out (by first | trivial | rfl))
          clear HT HR HD HN HM
          cases o
          · skip
            have HR2 := Lib.hid (show ∀ w, Calls Try.prog 9 #[.agg #[.int .i64 x, .int .i64 y], .bool true] w fun e w' => e = .returned (.tuple #[.agg #[.bool true, .int .i64 (x % 99), .int .i64 (y % 99)], .bool true]) ∧ Below w.heap.size w w' from HR1.out)
            have HN2 := Lib.hid (show ∀ w, Calls Try.prog 13 #[.agg #[.bool false, .int .i64 (x % 100), .int .i64 (y % 100)], .agg #[.int .i64 x, .int .i64 y]] w fun e w' => e = .returned (.tuple #[.agg #[.int .i64 x, .int .i64 y], .bool true]) ∧ Below w.heap.size w w' from HN1.out)
            have HM2 := Lib.hid (show ∀ w, Calls Try.prog 14 #[.agg #[.bool false, .int .i64 (x % 100), .int .i64 (y % 100)], .agg #[.bool true, .int .i64 (x % 99), .int .i64 (y % 99)], .int .i64 0] w fun e w' => ∃ v, e = .returned (.tuple #[v, .bool true]) ∧ w'.ownsRow w.heap.size 25 2 v 1 (cellsI [x, y]) ∧ Below w.heap.size w w' from HM1.out)
            clear HR1 HN1 HM1
            have R10c := Lib.hid (show AtS 29 #[.bool false, .int .i64 (x % 100), .int .i64 (y % 100)] _ _ _ from R10c.out)
            generalize x % 100 = ae at *
            generalize y % 100 = be at *
            generalize x % 99 = ao at *
            generalize y % 99 = bo at *
            have p0_ : V13.cell? ⟨b3, 0, none⟩ = some (.int .i64 x) := P10c.out.cell 0
            have p1_ : V13.cell? ⟨b3, 1, none⟩ = some (.int .i64 y) := P10c.out.cell 1
            have plt_ := P10c.out.2.2.1
            go_wp2_with fail
            clear p0_ p1_ plt_
            refine (HR2.out V13).mono ?_
            rintro e V15 ⟨rfl, h15⟩
            have HB15 := Lib.hid (HB10c.out.trans (h15.mono HB10c.out.size))
            have P15 := Lib.hid (P10c.out.old h15)
            have R15 := Lib.hid (R10c.out.old h15)
            have S15 := Lib.hid (S10c.out.old h15)
            have BR16m := Lib.hid (BR14.out.trans (h15.mono BR14.out.size))
            clear HB10c P10c R10c S10c BR14 h15
            have Q17 := Lib.hid (newS 29 #[.bool true, .int .i64 ao, .int .i64 bo] V15)
            have P17a := Lib.hid (P15.out.alloc (.cells #[.bool true, .int .i64 ao, .int .i64 bo] 29))
            clear P15
            have R17a := Lib.hid (R15.out.alloc (.cells #[.bool true, .int .i64 ao, .int .i64 bo] 29))
            clear R15
            have S17a := Lib.hid (S15.out.alloc (.cells #[.bool true, .int .i64 ao, .int .i64 bo] 29))
            clear S15
            have BR17d := Lib.hid (BR16m.out.alloc BR16m.out.size (.cells #[.bool true, .int .i64 ao, .int .i64 bo] 29))
            clear BR16m
            have HB17a := Lib.hid (HB15.out.alloc HB15.out.size (.cells #[.bool true, .int .i64 ao, .int .i64 bo] 29))
            clear HB15
            go_upto_region 10 with fail
            generalize (V15.alloc (.cells #[.bool true, .int .i64 ao, .int .i64 bo] 29)) = V18 at *
            generalize V15.heap.size = b18 at *
            have CS19 := Lib.hid (show ∀ WZ : World, Below V18.heap.size V18 WZ → WZ.cell? ⟨b6, 0, none⟩ = some (.bool false) ∧ WZ.cell? ⟨b6, 1, none⟩ = some (.int .i64 ae) ∧ WZ.cell? ⟨b6, 2, none⟩ = some (.int .i64 be) ∧ WZ.cell? ⟨b18, 0, none⟩ = some (.bool true) ∧ WZ.cell? ⟨b18, 1, none⟩ = some (.int .i64 ao) ∧ WZ.cell? ⟨b18, 2, none⟩ = some (.int .i64 bo) from fun WZ hz => And.intro (posx.at_cell (R17a.out.old hz) 0 (.bool false) rfl) (And.intro (posx.at_cell (R17a.out.old hz) 1 (.int .i64 ae) rfl) (And.intro (posx.at_cell (R17a.out.old hz) 2 (.int .i64 be) rfl) (And.intro (posx.at_cell (Q17.out.old hz) 0 (.bool true) rfl) (And.intro (posx.at_cell (Q17.out.old hz) 1 (.int .i64 ao) rfl) (posx.at_cell (Q17.out.old hz) 2 (.int .i64 bo) rfl))))))
            have XA := Lib.hid ((newS 29 #[.bool false, .int .i64 ae, .int .i64 be] V18).alloc (.cells #[.bool true, .int .i64 ao, .int .i64 bo] 29))
            have XB := (newS 29 #[.bool false, .int .i64 ae, .int .i64 be] V18).next 29 #[.bool true, .int .i64 ao, .int .i64 bo]
            have YB := Lib.hid ((newS 29 #[.bool true, .int .i64 ao, .int .i64 bo] V18).alloc (.cells #[.bool false, .int .i64 ae, .int .i64 be] 29))
            have YA := (newS 29 #[.bool true, .int .i64 ao, .int .i64 bo] V18).next 29 #[.bool false, .int .i64 ae, .int .i64 be]
            rw [World.size_alloc] at XB YA
            have XB := Lib.hid XB
            have YA := Lib.hid YA
            go_cut [11, 12] from 78 to 79 (fun p q wz => ∃ b11 b12, p = .pointer (some ⟨b11, 0, none⟩) ∧ q = .pointer (some ⟨b12, 0, none⟩) ∧ b11 ≠ b12 ∧ AtS 29 #[.bool false, .int .i64 ae, .int .i64 be] V18 wz b11 ∧ AtS 29 #[.bool true, .int .i64 ao, .int .i64 bo] V18 wz b12)
            case first =>
              go_region_held3 (fun w' => w'.cell? ⟨b6, 0, none⟩ = some (.bool false) ∧ w'.cell? ⟨b6, 1, none⟩ = some (.int .i64 ae) ∧ w'.cell? ⟨b6, 2, none⟩ = some (.int .i64 be) ∧ w'.cell? ⟨b18, 0, none⟩ = some (.bool true) ∧ w'.cell? ⟨b18, 1, none⟩ = some (.int .i64 ao) ∧ w'.cell? ⟨b18, 2, none⟩ = some (.int .i64 bo)) (first
                | exact CS19.out _ (Below.refl V18.heap.size V18).drew
                | exact CS19.out _ ((Below.refl V18.heap.size V18).alloc (Nat.le_refl _) _).drew
                | exact CS19.out _ (((Below.refl V18.heap.size V18).alloc (Nat.le_refl _) _).alloc (by rw [World.size_alloc]; omega) _).drew
                | go_keep) (fail)
              all_goals (
                go_wp2_with fail
                go_meet
                first
                | exact ⟨_, _, rfl, rfl, by omega, XA.out.drew, XB.out.drew⟩
                | exact ⟨_, _, rfl, rfl, by omega, YA.out.drew, YB.out.drew⟩)
            case rest =>
              obtain ⟨b11, b12, rfl, rfl, hbne, hA, hB⟩ := hcut
              clear CS19 XA XB YA YB
              generalize wc = V78 at *
              have HAB := hA.1
              have HB19z := Lib.hid (HB17a.out.trans (HAB.mono HB17a.out.size))
              have P19z := Lib.hid (P17a.out.old HAB)
              have R19z := Lib.hid (R17a.out.old HAB)
              have S19z := Lib.hid (S17a.out.old HAB)
              have Q19z := Lib.hid (Q17.out.old HAB)
              have BR20m := Lib.hid (BR17d.out.trans (HAB.mono BR17d.out.size))
              have EA := Lib.hid hA
              have EB := Lib.hid hB
              clear HB17a P17a R17a S17a Q17 BR17d hA hB HAB hbne
              have a0_ : V78.cell? ⟨b11, 0, none⟩ = some (.bool false) := EA.out.cell 0
              have a1_ : V78.cell? ⟨b11, 1, none⟩ = some (.int .i64 ae) := EA.out.cell 1
              have a2_ : V78.cell? ⟨b11, 2, none⟩ = some (.int .i64 be) := EA.out.cell 2
              have alt_ := EA.out.2.2.1
              have b0_ : V78.cell? ⟨b12, 0, none⟩ = some (.bool true) := EB.out.cell 0
              have b1_ : V78.cell? ⟨b12, 1, none⟩ = some (.int .i64 ao) := EB.out.cell 1
              have b2_ : V78.cell? ⟨b12, 2, none⟩ = some (.int .i64 bo) := EB.out.cell 2
              have blt_ := EB.out.2.2.1
              go_wp2_with fail
              clear a0_ a1_ a2_ alt_ b0_ b1_ b2_ blt_
              refine (HD1.out V78).mono ?_
              rintro e V21 ⟨rfl, h21⟩
              have HB21 := Lib.hid (HB19z.out.trans (h21.mono HB19z.out.size))
              have P21 := Lib.hid (P19z.out.old h21)
              have R21 := Lib.hid (R19z.out.old h21)
              have S21 := Lib.hid (S19z.out.old h21)
              have Q21 := Lib.hid (Q19z.out.old h21)
              have A21 := Lib.hid (EA.out.old h21)
              have B21 := Lib.hid (EB.out.old h21)
              have BR22m := Lib.hid (BR20m.out.trans (h21.mono BR20m.out.size))
              clear HB19z P19z R19z S19z Q19z EA EB BR20m h21
              have C23 := Lib.hid (newS 25 #[.int .i64 x, .int .i64 y] V21)
              have P23a := Lib.hid (P21.out.alloc (.cells #[.int .i64 x, .int .i64 y] 25))
              clear P21
              have R23a := Lib.hid (R21.out.alloc (.cells #[.int .i64 x, .int .i64 y] 25))
              clear R21
              have S23a := Lib.hid (S21.out.alloc (.cells #[.int .i64 x, .int .i64 y] 25))
              clear S21
              have Q23a := Lib.hid (Q21.out.alloc (.cells #[.int .i64 x, .int .i64 y] 25))
              clear Q21
              have A23a := Lib.hid (A21.out.alloc (.cells #[.int .i64 x, .int .i64 y] 25))
              clear A21
              have B23a := Lib.hid (B21.out.alloc (.cells #[.int .i64 x, .int .i64 y] 25))
              clear B21
              have BR23d := Lib.hid (BR22m.out.alloc BR22m.out.size (.cells #[.int .i64 x, .int .i64 y] 25))
              clear BR22m
              have HB23a := Lib.hid (HB21.out.alloc HB21.out.size (.cells #[.int .i64 x, .int .i64 y] 25))
              clear HB21
              have r0_ : (V21.alloc (.cells #[.int .i64 x, .int .i64 y] 25)).cell? ⟨b6, 0, none⟩ = some (.bool false) := R23a.out.cell 0
              have r1_ : (V21.alloc (.cells #[.int .i64 x, .int .i64 y] 25)).cell? ⟨b6, 1, none⟩ = some (.int .i64 ae) := R23a.out.cell 1
              have r2_ : (V21.alloc (.cells #[.int .i64 x, .int .i64 y] 25)).cell? ⟨b6, 2, none⟩ = some (.int .i64 be) := R23a.out.cell 2
              have rlt_ := R23a.out.2.2.1
              have p0_ : (V21.alloc (.cells #[.int .i64 x, .int .i64 y] 25)).cell? ⟨b3, 0, none⟩ = some (.int .i64 x) := P23a.out.cell 0
              have p1_ : (V21.alloc (.cells #[.int .i64 x, .int .i64 y] 25)).cell? ⟨b3, 1, none⟩ = some (.int .i64 y) := P23a.out.cell 1
              have plt_ := P23a.out.2.2.1
              go_wp2_with fail
              clear r0_ r1_ r2_ rlt_ p0_ p1_ plt_
              generalize (V21.alloc (.cells #[.int .i64 x, .int .i64 y] 25)) = V24 at *
              generalize V21.heap.size = b24 at *
              refine (HN2.out V24).mono ?_
              rintro e V25 ⟨rfl, h25⟩
              have HB25 := Lib.hid (HB23a.out.trans (h25.mono HB23a.out.size))
              have P25 := Lib.hid (P23a.out.old h25)
              have R25 := Lib.hid (R23a.out.old h25)
              have S25 := Lib.hid (S23a.out.old h25)
              have Q25 := Lib.hid (Q23a.out.old h25)
              have A25 := Lib.hid (A23a.out.old h25)
              have B25 := Lib.hid (B23a.out.old h25)
              have C25 := Lib.hid (C23.out.old h25)
              have BR26m := Lib.hid (BR23d.out.trans (h25.mono BR23d.out.size))
              clear HB23a P23a R23a S23a Q23a A23a B23a C23 BR23d h25
              have D27 := Lib.hid (newS 25 #[.int .i64 x, .int .i64 y] V25)
              have P27a := Lib.hid (P25.out.alloc (.cells #[.int .i64 x, .int .i64 y] 25))
              clear P25
              have R27a := Lib.hid (R25.out.alloc (.cells #[.int .i64 x, .int .i64 y] 25))
              clear R25
              have S27a := Lib.hid (S25.out.alloc (.cells #[.int .i64 x, .int .i64 y] 25))
              clear S25
              have Q27a := Lib.hid (Q25.out.alloc (.cells #[.int .i64 x, .int .i64 y] 25))
              clear Q25
              have A27a := Lib.hid (A25.out.alloc (.cells #[.int .i64 x, .int .i64 y] 25))
              clear A25
              have B27a := Lib.hid (B25.out.alloc (.cells #[.int .i64 x, .int .i64 y] 25))
              clear B25
              have C27a := Lib.hid (C25.out.alloc (.cells #[.int .i64 x, .int .i64 y] 25))
              clear C25
              have BR27d := Lib.hid (BR26m.out.alloc BR26m.out.size (.cells #[.int .i64 x, .int .i64 y] 25))
              clear BR26m
              have HB27a := Lib.hid (HB25.out.alloc HB25.out.size (.cells #[.int .i64 x, .int .i64 y] 25))
              clear HB25
              have r0_ : (V25.alloc (.cells #[.int .i64 x, .int .i64 y] 25)).cell? ⟨b6, 0, none⟩ = some (.bool false) := R27a.out.cell 0
              have r1_ : (V25.alloc (.cells #[.int .i64 x, .int .i64 y] 25)).cell? ⟨b6, 1, none⟩ = some (.int .i64 ae) := R27a.out.cell 1
              have r2_ : (V25.alloc (.cells #[.int .i64 x, .int .i64 y] 25)).cell? ⟨b6, 2, none⟩ = some (.int .i64 be) := R27a.out.cell 2
              have rlt_ := R27a.out.2.2.1
              have q0_ : (V25.alloc (.cells #[.int .i64 x, .int .i64 y] 25)).cell? ⟨b18, 0, none⟩ = some (.bool true) := Q27a.out.cell 0
              have q1_ : (V25.alloc (.cells #[.int .i64 x, .int .i64 y] 25)).cell? ⟨b18, 1, none⟩ = some (.int .i64 ao) := Q27a.out.cell 1
              have q2_ : (V25.alloc (.cells #[.int .i64 x, .int .i64 y] 25)).cell? ⟨b18, 2, none⟩ = some (.int .i64 bo) := Q27a.out.cell 2
              have qlt_ := Q27a.out.2.2.1
              go_wp2_with fail
              clear r0_ r1_ r2_ rlt_ q0_ q1_ q2_ qlt_
              generalize (V25.alloc (.cells #[.int .i64 x, .int .i64 y] 25)) = V28 at *
              generalize V25.heap.size = b28 at *
              refine (HM2.out V28).mono ?_
              rintro e V29 ⟨v29, rfl, o29, h29⟩
              obtain ⟨AM, cM, rfl⟩ := lst.own_sliceZ o29
              have HB29 := Lib.hid (HB27a.out.trans (h29.mono HB27a.out.size))
              have P29 := Lib.hid (P27a.out.old h29)
              have R29 := Lib.hid (R27a.out.old h29)
              have S29 := Lib.hid (S27a.out.old h29)
              have Q29 := Lib.hid (Q27a.out.old h29)
              have A29 := Lib.hid (A27a.out.old h29)
              have B29 := Lib.hid (B27a.out.old h29)
              have C29 := Lib.hid (C27a.out.old h29)
              have D29 := Lib.hid (D27.out.old h29)
              have BR30m := Lib.hid (BR27d.out.trans (h29.mono BR27d.out.size))
              have M29 := Lib.hid (lst.RdZ.of_own o29 rfl)
              clear HB27a P27a R27a S27a Q27a A27a B27a C27a D27 BR27d h29 o29
              go_upto_region 17 with fail
              have c0_ : V29.cell? ⟨b24, 0, none⟩ = some (.int .i64 x) := C29.out.cell 0
              have c1_ : V29.cell? ⟨b24, 1, none⟩ = some (.int .i64 y) := C29.out.cell 1
              have clt_ := C29.out.2.2.1
              have p0_ : V29.cell? ⟨b3, 0, none⟩ = some (.int .i64 x) := P29.out.cell 0
              have p1_ : V29.cell? ⟨b3, 1, none⟩ = some (.int .i64 y) := P29.out.cell 1
              have plt_ := P29.out.2.2.1
              have d0_ : V29.cell? ⟨b28, 0, none⟩ = some (.int .i64 x) := D29.out.cell 0
              have d1_ : V29.cell? ⟨b28, 1, none⟩ = some (.int .i64 y) := D29.out.cell 1
              have dlt_ := D29.out.2.2.1
              have e0 := int_eq_self x
              have e1 := int_eq_self y
              have e2 := int_ne_self x
              have e3 := int_ne_self y
              obtain ⟨bM, oM, rfl, -, n0, n1⟩ := pose.cells2 M29.out (Nat.lt_succ_self 0)
              have m0 : V29.cell? ⟨bM, oM, none⟩ = some (.int .i64 x) := by simpa [fld] using n0
              have m1 : V29.cell? ⟨bM, oM + 1, none⟩ = some (.int .i64 y) := by simpa [fld] using n1
              clear n0 n1
              go_quiet (fail)
              go_wp2_with fail
              go_meet
              exact aid.below_drewN BR30m.out _
          · skip
            have HR2 := Lib.hid (show ∀ w, Calls Try.prog 9 #[.agg #[.int .i64 x, .int .i64 y], .bool false] w fun e w' => e = .returned (.tuple #[.agg #[.bool false, .int .i64 (x % 100), .int .i64 (y % 100)], .bool true]) ∧ Below w.heap.size w w' from HR1.out)
            have HN2 := Lib.hid (show ∀ w, Calls Try.prog 13 #[.agg #[.bool true, .int .i64 (x % 99), .int .i64 (y % 99)], .agg #[.int .i64 x, .int .i64 y]] w fun e w' => e = .returned (.tuple #[.agg #[.int .i64 x, .int .i64 y], .bool true]) ∧ Below w.heap.size w w' from HN1.out)
            have HM2 := Lib.hid (show ∀ w, Calls Try.prog 14 #[.agg #[.bool true, .int .i64 (x % 99), .int .i64 (y % 99)], .agg #[.bool false, .int .i64 (x % 100), .int .i64 (y % 100)], .int .i64 0] w fun e w' => ∃ v, e = .returned (.tuple #[v, .bool true]) ∧ w'.ownsRow w.heap.size 25 2 v 1 (cellsI [x, y]) ∧ Below w.heap.size w w' from HM1.out)
            clear HR1 HN1 HM1
            have R10c := Lib.hid (show AtS 29 #[.bool true, .int .i64 (x % 99), .int .i64 (y % 99)] _ _ _ from R10c.out)
            generalize x % 100 = ae at *
            generalize y % 100 = be at *
            generalize x % 99 = ao at *
            generalize y % 99 = bo at *
            have p0_ : V13.cell? ⟨b3, 0, none⟩ = some (.int .i64 x) := P10c.out.cell 0
            have p1_ : V13.cell? ⟨b3, 1, none⟩ = some (.int .i64 y) := P10c.out.cell 1
            have plt_ := P10c.out.2.2.1
            go_wp2_with fail
            clear p0_ p1_ plt_
            refine (HR2.out V13).mono ?_
            rintro e V31 ⟨rfl, h31⟩
            have HB31 := Lib.hid (HB10c.out.trans (h31.mono HB10c.out.size))
            have P31 := Lib.hid (P10c.out.old h31)
            have R31 := Lib.hid (R10c.out.old h31)
            have S31 := Lib.hid (S10c.out.old h31)
            have BR32m := Lib.hid (BR14.out.trans (h31.mono BR14.out.size))
            clear HB10c P10c R10c S10c BR14 h31
            have Q33 := Lib.hid (newS 29 #[.bool false, .int .i64 ae, .int .i64 be] V31)
            have P33a := Lib.hid (P31.out.alloc (.cells #[.bool false, .int .i64 ae, .int .i64 be] 29))
            clear P31
            have R33a := Lib.hid (R31.out.alloc (.cells #[.bool false, .int .i64 ae, .int .i64 be] 29))
            clear R31
            have S33a := Lib.hid (S31.out.alloc (.cells #[.bool false, .int .i64 ae, .int .i64 be] 29))
            clear S31
            have BR33d := Lib.hid (BR32m.out.alloc BR32m.out.size (.cells #[.bool false, .int .i64 ae, .int .i64 be] 29))
            clear BR32m
            have HB33a := Lib.hid (HB31.out.alloc HB31.out.size (.cells #[.bool false, .int .i64 ae, .int .i64 be] 29))
            clear HB31
            go_upto_region 10 with fail
            generalize (V31.alloc (.cells #[.bool false, .int .i64 ae, .int .i64 be] 29)) = V34 at *
            generalize V31.heap.size = b34 at *
            have CS35 := Lib.hid (show ∀ WZ : World, Below V34.heap.size V34 WZ → WZ.cell? ⟨b6, 0, none⟩ = some (.bool true) ∧ WZ.cell? ⟨b6, 1, none⟩ = some (.int .i64 ao) ∧ WZ.cell? ⟨b6, 2, none⟩ = some (.int .i64 bo) ∧ WZ.cell? ⟨b34, 0, none⟩ = some (.bool false) ∧ WZ.cell? ⟨b34, 1, none⟩ = some (.int .i64 ae) ∧ WZ.cell? ⟨b34, 2, none⟩ = some (.int .i64 be) from fun WZ hz => And.intro (posx.at_cell (R33a.out.old hz) 0 (.bool true) rfl) (And.intro (posx.at_cell (R33a.out.old hz) 1 (.int .i64 ao) rfl) (And.intro (posx.at_cell (R33a.out.old hz) 2 (.int .i64 bo) rfl) (And.intro (posx.at_cell (Q33.out.old hz) 0 (.bool false) rfl) (And.intro (posx.at_cell (Q33.out.old hz) 1 (.int .i64 ae) rfl) (posx.at_cell (Q33.out.old hz) 2 (.int .i64 be) rfl))))))
            have XA := Lib.hid ((newS 29 #[.bool true, .int .i64 ao, .int .i64 bo] V34).alloc (.cells #[.bool false, .int .i64 ae, .int .i64 be] 29))
            have XB := (newS 29 #[.bool true, .int .i64 ao, .int .i64 bo] V34).next 29 #[.bool false, .int .i64 ae, .int .i64 be]
            have YB := Lib.hid ((newS 29 #[.bool false, .int .i64 ae, .int .i64 be] V34).alloc (.cells #[.bool true, .int .i64 ao, .int .i64 bo] 29))
            have YA := (newS 29 #[.bool false, .int .i64 ae, .int .i64 be] V34).next 29 #[.bool true, .int .i64 ao, .int .i64 bo]
            rw [World.size_alloc] at XB YA
            have XB := Lib.hid XB
            have YA := Lib.hid YA
            go_cut [11, 12] from 78 to 79 (fun p q wz => ∃ b11 b12, p = .pointer (some ⟨b11, 0, none⟩) ∧ q = .pointer (some ⟨b12, 0, none⟩) ∧ b11 ≠ b12 ∧ AtS 29 #[.bool true, .int .i64 ao, .int .i64 bo] V34 wz b11 ∧ AtS 29 #[.bool false, .int .i64 ae, .int .i64 be] V34 wz b12)
            case first =>
              go_region_held3 (fun w' => w'.cell? ⟨b6, 0, none⟩ = some (.bool true) ∧ w'.cell? ⟨b6, 1, none⟩ = some (.int .i64 ao) ∧ w'.cell? ⟨b6, 2, none⟩ = some (.int .i64 bo) ∧ w'.cell? ⟨b34, 0, none⟩ = some (.bool false) ∧ w'.cell? ⟨b34, 1, none⟩ = some (.int .i64 ae) ∧ w'.cell? ⟨b34, 2, none⟩ = some (.int .i64 be)) (first
                | exact CS35.out _ (Below.refl V34.heap.size V34).drew
                | exact CS35.out _ ((Below.refl V34.heap.size V34).alloc (Nat.le_refl _) _).drew
                | exact CS35.out _ (((Below.refl V34.heap.size V34).alloc (Nat.le_refl _) _).alloc (by rw [World.size_alloc]; omega) _).drew
                | go_keep) (fail)
              all_goals (
                go_wp2_with fail
                go_meet
                first
                | exact ⟨_, _, rfl, rfl, by omega, XA.out.drew, XB.out.drew⟩
                | exact ⟨_, _, rfl, rfl, by omega, YA.out.drew, YB.out.drew⟩)
            case rest =>
              obtain ⟨b11, b12, rfl, rfl, hbne, hA, hB⟩ := hcut
              clear CS35 XA XB YA YB
              generalize wc = V78 at *
              have r0_ : V78.cell? ⟨b6, 0, none⟩ = some (.bool true) := (R33a.out.old hA.1).cell 0
              have r1_ : V78.cell? ⟨b6, 1, none⟩ = some (.int .i64 ao) := (R33a.out.old hA.1).cell 1
              have r2_ : V78.cell? ⟨b6, 2, none⟩ = some (.int .i64 bo) := (R33a.out.old hA.1).cell 2
              have neR : ¬ b6 = b11 := by have := R33a.out.2.2.1; have := hA.2.1; omega
              have nfR : ¬ b6 = b12 := by have := R33a.out.2.2.1; have := hB.2.1; omega
              have q0_ : V78.cell? ⟨b34, 0, none⟩ = some (.bool false) := (Q33.out.old hA.1).cell 0
              have q1_ : V78.cell? ⟨b34, 1, none⟩ = some (.int .i64 ae) := (Q33.out.old hA.1).cell 1
              have q2_ : V78.cell? ⟨b34, 2, none⟩ = some (.int .i64 be) := (Q33.out.old hA.1).cell 2
              have neQ : ¬ b34 = b11 := by have := Q33.out.2.2.1; have := hA.2.1; omega
              have nfQ : ¬ b34 = b12 := by have := Q33.out.2.2.1; have := hB.2.1; omega
              have ac0_ := hA.cell 0
              have af0_ := hA.frozen 0
              have ac1_ := hA.cell 1
              have af1_ := hA.frozen 1
              have ac2_ := hA.cell 2
              have af2_ := hA.frozen 2
              have bc0_ := hB.cell 0
              have bf0_ := hB.frozen 0
              have bc1_ := hB.cell 1
              have bf1_ := hB.frozen 1
              have bc2_ := hB.cell 2
              have bf2_ := hB.frozen 2
              have hbne' : ¬ b11 = b12 := hbne
              have EA2 := Lib.hid (AtS.other (AtS.other (AtS.other (AtS.set (AtS.set (AtS.set (hA) 0 (.bool false)) 1 (.int .i64 ae)) 2 (.int .i64 be)) (b' := b12) (hB.2.1) (hbne) 0 (.bool true)) (b' := b12) (hB.2.1) (hbne) 1 (.int .i64 ao)) (b' := b12) (hB.2.1) (hbne) 2 (.int .i64 bo))
              have EB2 := Lib.hid (AtS.set (AtS.set (AtS.set (AtS.other (AtS.other (AtS.other (hB) (b' := b11) (hA.2.1) (fun e => hbne e.symm) 0 (.bool false)) (b' := b11) (hA.2.1) (fun e => hbne e.symm) 1 (.int .i64 ae)) (b' := b11) (hA.2.1) (fun e => hbne e.symm) 2 (.int .i64 be)) 0 (.bool true)) 1 (.int .i64 ao)) 2 (.int .i64 bo))
              have HAB := Lib.hid hA.1
              go_upto_if 80 with fail
              go_cut [] from 81 to 82 (fun wz => AtS 29 #[.bool false, .int .i64 ae, .int .i64 be] V34 wz b11 ∧ AtS 29 #[.bool true, .int .i64 ao, .int .i64 bo] V34 wz b12)
              case first =>
                clear hA hB
                go_wp2_with fail
                go_meet
                exact ⟨EA2.out, EB2.out⟩
              case rest =>
                obtain ⟨hA2, hB2⟩ := hcut
                clear hA hB EA2 EB2 HAB r0_ r1_ r2_ q0_ q1_ q2_ neR nfR neQ nfQ ac0_ ac1_ ac2_ af0_ af1_ af2_ bc0_ bc1_ bc2_ bf0_ bf1_ bf2_ hbne'
                generalize wc = V79 at *
                have hA := hA2
                have hB := hB2
                clear hA2 hB2
                have HAB := hA.1
                have HB35z := Lib.hid (HB33a.out.trans (HAB.mono HB33a.out.size))
                have P35z := Lib.hid (P33a.out.old HAB)
                have R35z := Lib.hid (R33a.out.old HAB)
                have S35z := Lib.hid (S33a.out.old HAB)
                have Q35z := Lib.hid (Q33.out.old HAB)
                have BR36m := Lib.hid (BR33d.out.trans (HAB.mono BR33d.out.size))
                have EA := Lib.hid hA
                have EB := Lib.hid hB
                clear HB33a P33a R33a S33a Q33 BR33d hA hB HAB hbne
                have a0_ : V79.cell? ⟨b11, 0, none⟩ = some (.bool false) := EA.out.cell 0
                have a1_ : V79.cell? ⟨b11, 1, none⟩ = some (.int .i64 ae) := EA.out.cell 1
                have a2_ : V79.cell? ⟨b11, 2, none⟩ = some (.int .i64 be) := EA.out.cell 2
                have alt_ := EA.out.2.2.1
                have b0_ : V79.cell? ⟨b12, 0, none⟩ = some (.bool true) := EB.out.cell 0
                have b1_ : V79.cell? ⟨b12, 1, none⟩ = some (.int .i64 ao) := EB.out.cell 1
                have b2_ : V79.cell? ⟨b12, 2, none⟩ = some (.int .i64 bo) := EB.out.cell 2
                have blt_ := EB.out.2.2.1
                go_wp2_with fail
                clear a0_ a1_ a2_ alt_ b0_ b1_ b2_ blt_
                refine (HD1.out V79).mono ?_
                rintro e V37 ⟨rfl, h37⟩
                have HB37 := Lib.hid (HB35z.out.trans (h37.mono HB35z.out.size))
                have P37 := Lib.hid (P35z.out.old h37)
                have R37 := Lib.hid (R35z.out.old h37)
                have S37 := Lib.hid (S35z.out.old h37)
                have Q37 := Lib.hid (Q35z.out.old h37)
                have A37 := Lib.hid (EA.out.old h37)
                have B37 := Lib.hid (EB.out.old h37)
                have BR38m := Lib.hid (BR36m.out.trans (h37.mono BR36m.out.size))
                clear HB35z P35z R35z S35z Q35z EA EB BR36m h37
                have C39 := Lib.hid (newS 25 #[.int .i64 x, .int .i64 y] V37)
                have P39a := Lib.hid (P37.out.alloc (.cells #[.int .i64 x, .int .i64 y] 25))
                clear P37
                have R39a := Lib.hid (R37.out.alloc (.cells #[.int .i64 x, .int .i64 y] 25))
                clear R37
                have S39a := Lib.hid (S37.out.alloc (.cells #[.int .i64 x, .int .i64 y] 25))
                clear S37
                have Q39a := Lib.hid (Q37.out.alloc (.cells #[.int .i64 x, .int .i64 y] 25))
                clear Q37
                have A39a := Lib.hid (A37.out.alloc (.cells #[.int .i64 x, .int .i64 y] 25))
                clear A37
                have B39a := Lib.hid (B37.out.alloc (.cells #[.int .i64 x, .int .i64 y] 25))
                clear B37
                have BR39d := Lib.hid (BR38m.out.alloc BR38m.out.size (.cells #[.int .i64 x, .int .i64 y] 25))
                clear BR38m
                have HB39a := Lib.hid (HB37.out.alloc HB37.out.size (.cells #[.int .i64 x, .int .i64 y] 25))
                clear HB37
                have r0_ : (V37.alloc (.cells #[.int .i64 x, .int .i64 y] 25)).cell? ⟨b6, 0, none⟩ = some (.bool true) := R39a.out.cell 0
                have r1_ : (V37.alloc (.cells #[.int .i64 x, .int .i64 y] 25)).cell? ⟨b6, 1, none⟩ = some (.int .i64 ao) := R39a.out.cell 1
                have r2_ : (V37.alloc (.cells #[.int .i64 x, .int .i64 y] 25)).cell? ⟨b6, 2, none⟩ = some (.int .i64 bo) := R39a.out.cell 2
                have rlt_ := R39a.out.2.2.1
                have p0_ : (V37.alloc (.cells #[.int .i64 x, .int .i64 y] 25)).cell? ⟨b3, 0, none⟩ = some (.int .i64 x) := P39a.out.cell 0
                have p1_ : (V37.alloc (.cells #[.int .i64 x, .int .i64 y] 25)).cell? ⟨b3, 1, none⟩ = some (.int .i64 y) := P39a.out.cell 1
                have plt_ := P39a.out.2.2.1
                go_wp2_with fail
                clear r0_ r1_ r2_ rlt_ p0_ p1_ plt_
                generalize (V37.alloc (.cells #[.int .i64 x, .int .i64 y] 25)) = V40 at *
                generalize V37.heap.size = b40 at *
                refine (HN2.out V40).mono ?_
                rintro e V41 ⟨rfl, h41⟩
                have HB41 := Lib.hid (HB39a.out.trans (h41.mono HB39a.out.size))
                have P41 := Lib.hid (P39a.out.old h41)
                have R41 := Lib.hid (R39a.out.old h41)
                have S41 := Lib.hid (S39a.out.old h41)
                have Q41 := Lib.hid (Q39a.out.old h41)
                have A41 := Lib.hid (A39a.out.old h41)
                have B41 := Lib.hid (B39a.out.old h41)
                have C41 := Lib.hid (C39.out.old h41)
                have BR42m := Lib.hid (BR39d.out.trans (h41.mono BR39d.out.size))
                clear HB39a P39a R39a S39a Q39a A39a B39a C39 BR39d h41
                have D43 := Lib.hid (newS 25 #[.int .i64 x, .int .i64 y] V41)
                have P43a := Lib.hid (P41.out.alloc (.cells #[.int .i64 x, .int .i64 y] 25))
                clear P41
                have R43a := Lib.hid (R41.out.alloc (.cells #[.int .i64 x, .int .i64 y] 25))
                clear R41
                have S43a := Lib.hid (S41.out.alloc (.cells #[.int .i64 x, .int .i64 y] 25))
                clear S41
                have Q43a := Lib.hid (Q41.out.alloc (.cells #[.int .i64 x, .int .i64 y] 25))
                clear Q41
                have A43a := Lib.hid (A41.out.alloc (.cells #[.int .i64 x, .int .i64 y] 25))
                clear A41
                have B43a := Lib.hid (B41.out.alloc (.cells #[.int .i64 x, .int .i64 y] 25))
                clear B41
                have C43a := Lib.hid (C41.out.alloc (.cells #[.int .i64 x, .int .i64 y] 25))
                clear C41
                have BR43d := Lib.hid (BR42m.out.alloc BR42m.out.size (.cells #[.int .i64 x, .int .i64 y] 25))
                clear BR42m
                have HB43a := Lib.hid (HB41.out.alloc HB41.out.size (.cells #[.int .i64 x, .int .i64 y] 25))
                clear HB41
                have r0_ : (V41.alloc (.cells #[.int .i64 x, .int .i64 y] 25)).cell? ⟨b6, 0, none⟩ = some (.bool true) := R43a.out.cell 0
                have r1_ : (V41.alloc (.cells #[.int .i64 x, .int .i64 y] 25)).cell? ⟨b6, 1, none⟩ = some (.int .i64 ao) := R43a.out.cell 1
                have r2_ : (V41.alloc (.cells #[.int .i64 x, .int .i64 y] 25)).cell? ⟨b6, 2, none⟩ = some (.int .i64 bo) := R43a.out.cell 2
                have rlt_ := R43a.out.2.2.1
                have q0_ : (V41.alloc (.cells #[.int .i64 x, .int .i64 y] 25)).cell? ⟨b34, 0, none⟩ = some (.bool false) := Q43a.out.cell 0
                have q1_ : (V41.alloc (.cells #[.int .i64 x, .int .i64 y] 25)).cell? ⟨b34, 1, none⟩ = some (.int .i64 ae) := Q43a.out.cell 1
                have q2_ : (V41.alloc (.cells #[.int .i64 x, .int .i64 y] 25)).cell? ⟨b34, 2, none⟩ = some (.int .i64 be) := Q43a.out.cell 2
                have qlt_ := Q43a.out.2.2.1
                go_wp2_with fail
                clear r0_ r1_ r2_ rlt_ q0_ q1_ q2_ qlt_
                generalize (V41.alloc (.cells #[.int .i64 x, .int .i64 y] 25)) = V44 at *
                generalize V41.heap.size = b44 at *
                refine (HM2.out V44).mono ?_
                rintro e V45 ⟨v45, rfl, o45, h45⟩
                obtain ⟨AM, cM, rfl⟩ := lst.own_sliceZ o45
                have HB45 := Lib.hid (HB43a.out.trans (h45.mono HB43a.out.size))
                have P45 := Lib.hid (P43a.out.old h45)
                have R45 := Lib.hid (R43a.out.old h45)
                have S45 := Lib.hid (S43a.out.old h45)
                have Q45 := Lib.hid (Q43a.out.old h45)
                have A45 := Lib.hid (A43a.out.old h45)
                have B45 := Lib.hid (B43a.out.old h45)
                have C45 := Lib.hid (C43a.out.old h45)
                have D45 := Lib.hid (D43.out.old h45)
                have BR46m := Lib.hid (BR43d.out.trans (h45.mono BR43d.out.size))
                have M45 := Lib.hid (lst.RdZ.of_own o45 rfl)
                clear HB43a P43a R43a S43a Q43a A43a B43a C43a D43 BR43d h45 o45
                go_upto_region 17 with fail
                have c0_ : V45.cell? ⟨b40, 0, none⟩ = some (.int .i64 x) := C45.out.cell 0
                have c1_ : V45.cell? ⟨b40, 1, none⟩ = some (.int .i64 y) := C45.out.cell 1
                have clt_ := C45.out.2.2.1
                have p0_ : V45.cell? ⟨b3, 0, none⟩ = some (.int .i64 x) := P45.out.cell 0
                have p1_ : V45.cell? ⟨b3, 1, none⟩ = some (.int .i64 y) := P45.out.cell 1
                have plt_ := P45.out.2.2.1
                have d0_ : V45.cell? ⟨b44, 0, none⟩ = some (.int .i64 x) := D45.out.cell 0
                have d1_ : V45.cell? ⟨b44, 1, none⟩ = some (.int .i64 y) := D45.out.cell 1
                have dlt_ := D45.out.2.2.1
                have e0 := int_eq_self x
                have e1 := int_eq_self y
                have e2 := int_ne_self x
                have e3 := int_ne_self y
                obtain ⟨bM, oM, rfl, -, n0, n1⟩ := pose.cells2 M45.out (Nat.lt_succ_self 0)
                have m0 : V45.cell? ⟨bM, oM, none⟩ = some (.int .i64 x) := by simpa [fld] using n0
                have m1 : V45.cell? ⟨bM, oM + 1, none⟩ = some (.int .i64 y) := by simpa [fld] using n1
                clear n0 n1
                go_quiet (fail)
                go_wp2_with fail
                go_meet
                exact aid.below_drewN BR46m.out _
      case rest =>
        have hg14 := hcut
        have HB14c := Lib.hid (HB10c.out.trans (hg14.mono HB10c.out.size))
        have P14c := Lib.hid (P10c.out.old hg14)
        have R14c := Lib.hid (R10c.out.old hg14)
        have S14c := Lib.hid (S10c.out.old hg14)
        clear HB10c P10c R10c S10c hg14 BR14
        generalize wc = V47 at *
        clear HT HR HD HN HM
        go_wp2_with fail
        refine (drawu7.decodeMoved A n c _ hn (Bytes_below H.out HB14c.out)).mono ?_
        rintro e V48 ⟨o1, a1, b1, o2, a2, b2, d, rfl, hdd, h48⟩
        have HB48 := Lib.hid (HB14c.out.trans (h48.mono HB14c.out.size))
        have P48 := Lib.hid (P14c.out.old h48)
        have R48 := Lib.hid (R14c.out.old h48)
        have S48 := Lib.hid (S14c.out.old h48)
        clear HB14c P14c R14c S14c h48
        clear P48
        clear R48
        clear S48
        obtain ⟨dd0, dd1⟩ := hdd
        have GI := Lib.hid (fun w => posq.decodeMoved o1 a1 b1 o2 a2 b2 d w)
        have GS := Lib.hid (fun w => posy.decodeMoved o1 a1 b1 o2 a2 b2 d w)
        have FI := Lib.hid (fun (k : Nat) (h : k < dmN o1 a1 b1 o2 a2 b2 d) => posfit.dm_fit h)
        have hL := dm_length o1 a1 b1 o2 a2 b2 d
        have hN : dmN o1 a1 b1 o2 a2 b2 d ≤ 10000 := posq.dm_le o1 a1 b1 o2 a2 b2 d
        have g0 := bool_ne_self (dmB o1 a1 b1 o2 a2 b2 d)
        have g3 := bool_ne_self o2
        have g4 := int_ne_self a2
        have g5 := int_ne_self b2
        generalize dmV o1 a1 b1 o2 a2 b2 d = Z4 at *
        generalize dmN o1 a1 b1 o2 a2 b2 d = N4 at *
        generalize dmB o1 a1 b1 o2 a2 b2 d = q4 at *
        have E49 := Lib.hid (newS 29 #[.bool o1, .int .i64 a1, .int .i64 b1] V48)
        have HB49a := Lib.hid (HB48.out.alloc HB48.out.size (.cells #[.bool o1, .int .i64 a1, .int .i64 b1] 29))
        clear HB48
        have F49 : Hid (AtS 29 #[.bool o2, .int .i64 a2, .int .i64 b2] V48 ((V48.alloc (.cells #[.bool o1, .int .i64 a1, .int .i64 b1] 29)).alloc (.cells #[.bool o2, .int .i64 a2, .int .i64 b2] 29)) (V48.heap.size + 1)) := Lib.hid (by have := (E49.out).next 29 #[.bool o2, .int .i64 a2, .int .i64 b2]; simpa only [World.size_alloc] using this)
        have E49xa := Lib.hid (E49.out.alloc (.cells #[.bool o2, .int .i64 a2, .int .i64 b2] 29))
        clear E49
        have HB49xa := Lib.hid (HB49a.out.alloc HB49a.out.size (.cells #[.bool o2, .int .i64 a2, .int .i64 b2] 29))
        clear HB49a
        go_wp2_with fail
        generalize ((V48.alloc (.cells #[.bool o1, .int .i64 a1, .int .i64 b1] 29)).alloc (.cells #[.bool o2, .int .i64 a2, .int .i64 b2] 29)) = V50 at *
        generalize V48.heap.size = b50 at *
        refine (GI.out V50).mono ?_
        rintro e V51 ⟨v51, rfl, o51, h51⟩
        obtain ⟨AM, cM, rfl⟩ := lst.own_sliceZ o51
        have HB51 := Lib.hid (HB49xa.out.trans (h51.mono HB49xa.out.size))
        have E51 := Lib.hid (E49xa.out.old h51)
        have F51 := Lib.hid (F49.out.old h51)
        have M51 := Lib.hid (lst.RdZ.of_own o51 hL)
        clear HB49xa E49xa F49 h51 o51
        have e0_ : V51.cell? ⟨b50, 0, none⟩ = some (.bool o1) := E51.out.cell 0
        have e1_ : V51.cell? ⟨b50, 1, none⟩ = some (.int .i64 a1) := E51.out.cell 1
        have e2_ : V51.cell? ⟨b50, 2, none⟩ = some (.int .i64 b1) := E51.out.cell 2
        have elt_ := E51.out.2.2.1
        have f0_ : V51.cell? ⟨b50 + 1, 0, none⟩ = some (.bool o2) := F51.out.cell 0
        have f1_ : V51.cell? ⟨b50 + 1, 1, none⟩ = some (.int .i64 a2) := F51.out.cell 1
        have f2_ : V51.cell? ⟨b50 + 1, 2, none⟩ = some (.int .i64 b2) := F51.out.cell 2
        have flt_ := F51.out.2.2.1
        go_wp2_with fail
        clear e0_ e1_ e2_ elt_ f0_ f1_ f2_ flt_
        refine (GS.out V51).mono ?_
        rintro e V52 ⟨v52, rfl, o52, h52⟩
        obtain ⟨AK, cK, rfl⟩ := lst.own_sliceZ o52
        have HB52 := Lib.hid (HB51.out.trans (h52.mono HB51.out.size))
        have E52 := Lib.hid (E51.out.old h52)
        have F52 := Lib.hid (F51.out.old h52)
        have M53r := Lib.hid (M51.out.next h52)
        have K52 := Lib.hid (lst.RdZ.of_own o52 hL)
        clear HB51 E51 F51 M51 h52 o52
        go_wp2_with fail
        refine (pose.vPlaces Z4 AM AK N4 cM cK V52 (by omega) M53r.out K52.out).mono ?_
        rintro e wx ⟨rfl, j54, rfl⟩
        have HB54 := Lib.hid (HB52.out.trans ((aid.below_drewN (Below.refl _ _) j54).mono HB52.out.size))
        have E54 := Lib.hid (E52.out.old (aid.below_drewN (Below.refl _ _) j54))
        have F54 := Lib.hid (F52.out.old (aid.below_drewN (Below.refl _ _) j54))
        have M55r := Lib.hid (M53r.out.next (aid.below_drewN (Below.refl _ _) j54))
        have K56r := Lib.hid (K52.out.next (aid.below_drewN (Below.refl _ _) j54))
        clear HB52 E52 F52 M53r K52
        generalize V52.drewN j54 = V54 at *
        clear K56r GI GS hL g0
        go_wp2_with fail
        have HV := Lib.hid (Below.refl V54.heap.size V54)
        go_loopw [26] (fun i wr => ∃ k : Nat, k ≤ N4 ∧ i = .int .i64 k ∧ Below V54.heap.size V54 wr) (fun i _ => N4 - (intOf i).toNat)
        case atStart => exact ⟨0, Nat.zero_le _, rfl, HV.out⟩
        case round =>
          obtain ⟨k, hk, rfl, hbr⟩ := hrel
          by_cases hlt : k < N4
          · have hlt2 : (k : Int) < (N4 : Int) := by omega
            obtain ⟨⟨f1, f2, f3, f4⟩, f5, ⟨f6, f7⟩, f8, f9⟩ := FI.out k hlt
            have pb := pB_yes f1
            have nb := posfit.near_at f5
            have RI := Lib.hid (fun w => posk.reportOf (fld 2 Z4 k 0) (fld 2 Z4 k 1) o2 w)
            have RJ := Lib.hid (show ∀ w, Calls Try.prog 9 #[.agg #[.int .i64 (fld 2 Z4 k 0), .int .i64 (fld 2 Z4 k 1)], .bool o2] w fun e w' => e = .returned (.tuple #[.agg #[.bool o2, .int .i64 a2, .int .i64 b2], .bool true]) ∧ Below w.heap.size w w' from fun w => by have h := RI.out w; rw [f1, f2, f3, f4] at h; exact h)
            have NI := Lib.hid (fun w => posn.decodeNear o1 a1 b1 (fld 2 Z4 k 0) (fld 2 Z4 k 1) w)
            rw [f5] at NI
            obtain ⟨⟨px0, px1⟩, py0, py1⟩ := pb
            obtain ⟨⟨nx0, nx1⟩, ⟨ny0, ny1⟩, -⟩ := nb
            obtain ⟨bM, oM, rfl, hbM, m0, m1⟩ := pose.cells2 (M55r.out.next hbr) hlt
            generalize dnX o1 a1 b1 (fld 2 Z4 k 0) (fld 2 Z4 k 1) = X at *
            generalize dnY o1 a1 b1 (fld 2 Z4 k 0) (fld 2 Z4 k 1) = Y at *
            generalize fld 2 Z4 k 0 = x at *
            generalize fld 2 Z4 k 1 = y at *
            have HBW := Lib.hid (HB54.out.trans (hbr.mono HB54.out.size))
            have EW := Lib.hid (E54.out.old hbr)
            have FW := Lib.hid (F54.out.old hbr)
            have BRW := Lib.hid hbr
            have VA1 := Lib.hid (fun w d => aid.quiet_left (posg.vAbs (X - x) (World.drewN w d) (by omega) (by omega)))
            have VA2 := Lib.hid (fun w d => aid.quiet_left (posg.vAbs (Y - y) (World.drewN w d) (by omega) (by omega)))
            have v1 : ¬ d < ((X - x).natAbs : Int) := by omega
            have v2 : ¬ d < ((Y - y).natAbs : Int) := by omega
            have w1 : IntKind.i64.wrap (X - x) = X - x := IntWalk.i64_in _ (by omega)
            have w2 : IntKind.i64.wrap (Y - y) = Y - y := IntWalk.i64_in _ (by omega)
            have MC := Lib.hid (show ∀ WZ : World, Below wr.heap.size wr WZ → (WZ.cell? ⟨bM, oM + k * 2, none⟩ = some (.int .i64 x) ∧ WZ.cell? ⟨bM, oM + k * 2 + 1, none⟩ = some (.int .i64 y)) from fun WZ hz => And.intro ((hz.cell (p := ⟨bM, oM + k * 2, none⟩) hbM).trans m0) ((hz.cell (p := ⟨bM, oM + k * 2 + 1, none⟩) hbM).trans m1))
            clear f1 f2 f3 f4 f5 RI FI hbr HV m0 m1 HB54 E54 F54 M55r
            have HQ := Lib.hid (Below.refl wr.heap.size wr)
            go_upto_region 27 with fail
            have CS57 := Lib.hid (show ∀ WZ : World, Below wr.heap.size wr WZ → WZ.cell? ⟨b50 + 1, 0, none⟩ = some (.bool o2) ∧ WZ.cell? ⟨b50 + 1, 1, none⟩ = some (.int .i64 a2) ∧ WZ.cell? ⟨b50 + 1, 2, none⟩ = some (.int .i64 b2) ∧ WZ.cell? ⟨bM, oM + k * 2, none⟩ = some (.int .i64 x) ∧ WZ.cell? ⟨bM, oM + k * 2 + 1, none⟩ = some (.int .i64 y) from fun WZ hz => And.intro (posx.at_cell (FW.out.old hz) 0 (.bool o2) rfl) (And.intro (posx.at_cell (FW.out.old hz) 1 (.int .i64 a2) rfl) (And.intro (posx.at_cell (FW.out.old hz) 2 (.int .i64 b2) rfl) (And.intro ((MC.out _ (HQ.out.trans (hz.mono HQ.out.size))).1) ((MC.out _ (HQ.out.trans (hz.mono HQ.out.size))).2)))))
            go_cut [27, 28] from 172 to 181 (fun p57 q570 wz => ∃ b, p57 = .pointer (some ⟨b, 0, none⟩) ∧ q570 = .bool true ∧ AtS 29 #[.bool o2, .int .i64 a2, .int .i64 b2] wr wz b)
            case first =>
              go_region_held3 (fun w' => w'.cell? ⟨b50 + 1, 0, none⟩ = some (.bool o2) ∧ w'.cell? ⟨b50 + 1, 1, none⟩ = some (.int .i64 a2) ∧ w'.cell? ⟨b50 + 1, 2, none⟩ = some (.int .i64 b2) ∧ w'.cell? ⟨bM, oM + k * 2, none⟩ = some (.int .i64 x) ∧ w'.cell? ⟨bM, oM + k * 2 + 1, none⟩ = some (.int .i64 y)) (first
                | exact CS57.out _ ((Below.refl wr.heap.size wr).drew)
                | exact CS57.out _ (by assumption)
                | exact CS57.out _ (((Below.refl wr.heap.size wr).alloc (Nat.le_refl _) (.cells #[.bool false, .int .i64 0, .int .i64 0] 29)).drew)
                | exact CS57.out _ (Below.alloc (by assumption) (Below.size (by assumption)) (.cells #[.bool false, .int .i64 0, .int .i64 0] 29))
                | exact CS57.out _ (AtS.set (AtS.set (AtS.set ((by assumption : AtS 29 #[.bool false, .int .i64 0, .int .i64 0] wr _ _)) 0 (.bool o2)) 1 (.int .i64 a2)) 2 (.int .i64 b2)).1
                | exact CS57.out _ (AtS.set (AtS.set (AtS.set (AtS.drew (newS 29 #[.bool false, .int .i64 0, .int .i64 0] wr)) 0 (.bool o2)) 1 (.int .i64 a2)) 2 (.int .i64 b2)).1
                | exact CS57.out _ (AtS.set (AtS.set (AtS.set (posx.at_next 29 #[.bool false, .int .i64 0, .int .i64 0] (by assumption)) 0 (.bool o2)) 1 (.int .i64 a2)) 2 (.int .i64 b2)).1
                | exact CS57.out _ (Below.alloc (by assumption) (Below.size (by assumption)) (.cells #[.bool o2, .int .i64 a2, .int .i64 b2] 29))
                | exact CS57.out _ (AtS.set (AtS.set (AtS.set (newS 29 #[.bool false, .int .i64 0, .int .i64 0] wr) 0 (.bool o2)) 1 (.int .i64 a2)) 2 (.int .i64 b2)).drew.1
                | go_keep) (first
                | (go_at_call 9; (with_reducible refine (RJ.out _).mono ?_); rintro e w' ⟨rfl, hb⟩
                   have hbl := posx.bl_next (V := wr) (by first | exact (Below.refl wr.heap.size wr).drew | assumption | exact ((Below.refl wr.heap.size wr).alloc (Nat.le_refl _) (.cells #[.bool false, .int .i64 0, .int .i64 0] 29)).drew | exact Below.alloc (by assumption) (Below.size (by assumption)) (.cells #[.bool false, .int .i64 0, .int .i64 0] 29)) hb
                   first
                     | (have hnu : AtS 29 #[.bool false, .int .i64 0, .int .i64 0] wr _ _ := AtS.old ((by assumption : AtS 29 #[.bool false, .int .i64 0, .int .i64 0] wr _ _)) hb; have z0 := posx.at_cell hnu 0 (.bool false) rfl; have y0 := AtS.frozen hnu 0; have z1 := posx.at_cell hnu 1 (.int .i64 0) rfl; have y1 := AtS.frozen hnu 1; have z2 := posx.at_cell hnu 2 (.int .i64 0) rfl; have y2 := AtS.frozen hnu 2; clear hb)
                     | (have hnu : AtS 29 #[.bool false, .int .i64 0, .int .i64 0] wr _ _ := AtS.old (AtS.drew (newS 29 #[.bool false, .int .i64 0, .int .i64 0] wr)) hb; have z0 := posx.at_cell hnu 0 (.bool false) rfl; have y0 := AtS.frozen hnu 0; have z1 := posx.at_cell hnu 1 (.int .i64 0) rfl; have y1 := AtS.frozen hnu 1; have z2 := posx.at_cell hnu 2 (.int .i64 0) rfl; have y2 := AtS.frozen hnu 2; clear hb)
                     | (have hnu : AtS 29 #[.bool false, .int .i64 0, .int .i64 0] wr _ _ := AtS.old (posx.at_next 29 #[.bool false, .int .i64 0, .int .i64 0] (by assumption)) hb; have z0 := posx.at_cell hnu 0 (.bool false) rfl; have y0 := AtS.frozen hnu 0; have z1 := posx.at_cell hnu 1 (.int .i64 0) rfl; have y1 := AtS.frozen hnu 1; have z2 := posx.at_cell hnu 2 (.int .i64 0) rfl; have y2 := AtS.frozen hnu 2; clear hb)
                     | clear hb))
              all_goals
                go_wp2_with fail
                go_meet
                first
                  | exact ⟨_, rfl, rfl, AtS.set (AtS.set (AtS.set ((by assumption : AtS 29 #[.bool false, .int .i64 0, .int .i64 0] wr _ _)) 0 (.bool o2)) 1 (.int .i64 a2)) 2 (.int .i64 b2)⟩
                  | exact ⟨_, rfl, rfl, AtS.set (AtS.set (AtS.set (AtS.drew (newS 29 #[.bool false, .int .i64 0, .int .i64 0] wr)) 0 (.bool o2)) 1 (.int .i64 a2)) 2 (.int .i64 b2)⟩
                  | exact ⟨_, rfl, rfl, AtS.set (AtS.set (AtS.set (posx.at_next 29 #[.bool false, .int .i64 0, .int .i64 0] (by assumption)) 0 (.bool o2)) 1 (.int .i64 a2)) 2 (.int .i64 b2)⟩
                  | exact ⟨_, rfl, rfl, posx.at_next 29 #[.bool o2, .int .i64 a2, .int .i64 b2] (by assumption)⟩
                  | exact ⟨_, rfl, rfl, (AtS.set (AtS.set (AtS.set (newS 29 #[.bool false, .int .i64 0, .int .i64 0] wr) 0 (.bool o2)) 1 (.int .i64 a2)) 2 (.int .i64 b2)).drew⟩
            case rest =>
              obtain ⟨g57, rfl, rfl, hg57⟩ := hcut
              have HB57 := Lib.hid (HBW.out.trans (hg57.1.mono HBW.out.size))
              have E57 := Lib.hid (EW.out.old hg57.1)
              have F57 := Lib.hid (FW.out.old hg57.1)
              have BR58m := Lib.hid (HQ.out.trans (hg57.1.mono HQ.out.size))
              have B57 := Lib.hid (show AtS 29 #[.bool o2, .int .i64 a2, .int .i64 b2] w wc g57 from ⟨HB57.out, Nat.le_trans HBW.out.size hg57.2.1, hg57.2.2⟩)
              clear HBW EW FW HQ CS57
              generalize wc = V59 at *
              go_upto_region 28 with fail
              have CS60 := Lib.hid (show ∀ WZ : World, Below V59.heap.size V59 WZ → WZ.cell? ⟨b50, 0, none⟩ = some (.bool o1) ∧ WZ.cell? ⟨b50, 1, none⟩ = some (.int .i64 a1) ∧ WZ.cell? ⟨b50, 2, none⟩ = some (.int .i64 b1) ∧ WZ.cell? ⟨bM, oM + k * 2, none⟩ = some (.int .i64 x) ∧ WZ.cell? ⟨bM, oM + k * 2 + 1, none⟩ = some (.int .i64 y) from fun WZ hz => And.intro (posx.at_cell (E57.out.old hz) 0 (.bool o1) rfl) (And.intro (posx.at_cell (E57.out.old hz) 1 (.int .i64 a1) rfl) (And.intro (posx.at_cell (E57.out.old hz) 2 (.int .i64 b1) rfl) (And.intro ((MC.out _ (BR58m.out.trans (hz.mono BR58m.out.size))).1) ((MC.out _ (BR58m.out.trans (hz.mono BR58m.out.size))).2)))))
              go_cut [29, 30] from 182 to 190 (fun p60 q600 wz => ∃ b, p60 = .pointer (some ⟨b, 0, none⟩) ∧ q600 = .bool true ∧ AtS 25 #[.int .i64 X, .int .i64 Y] V59 wz b)
              case first =>
                go_region_held3 (fun w' => w'.cell? ⟨b50, 0, none⟩ = some (.bool o1) ∧ w'.cell? ⟨b50, 1, none⟩ = some (.int .i64 a1) ∧ w'.cell? ⟨b50, 2, none⟩ = some (.int .i64 b1) ∧ w'.cell? ⟨bM, oM + k * 2, none⟩ = some (.int .i64 x) ∧ w'.cell? ⟨bM, oM + k * 2 + 1, none⟩ = some (.int .i64 y)) (first
                  | exact CS60.out _ ((Below.refl V59.heap.size V59).drew)
                  | exact CS60.out _ (by assumption)
                  | exact CS60.out _ (((Below.refl V59.heap.size V59).alloc (Nat.le_refl _) (.cells #[.int .i64 0, .int .i64 0] 25)).drew)
                  | exact CS60.out _ (Below.alloc (by assumption) (Below.size (by assumption)) (.cells #[.int .i64 0, .int .i64 0] 25))
                  | exact CS60.out _ (AtS.set (AtS.set ((by assumption : AtS 25 #[.int .i64 0, .int .i64 0] V59 _ _)) 0 (.int .i64 X)) 1 (.int .i64 Y)).1
                  | exact CS60.out _ (AtS.set (AtS.set (AtS.drew (newS 25 #[.int .i64 0, .int .i64 0] V59)) 0 (.int .i64 X)) 1 (.int .i64 Y)).1
                  | exact CS60.out _ (AtS.set (AtS.set (posx.at_next 25 #[.int .i64 0, .int .i64 0] (by assumption)) 0 (.int .i64 X)) 1 (.int .i64 Y)).1
                  | exact CS60.out _ (Below.alloc (by assumption) (Below.size (by assumption)) (.cells #[.int .i64 X, .int .i64 Y] 25))
                  | exact CS60.out _ (AtS.set (AtS.set (newS 25 #[.int .i64 0, .int .i64 0] V59) 0 (.int .i64 X)) 1 (.int .i64 Y)).drew.1
                  | go_keep) (first
                  | (go_at_call 13; (with_reducible refine (NI.out _).mono ?_); rintro e w' ⟨rfl, hb⟩
                     have hbl := posx.bl_next (V := V59) (by first | exact (Below.refl V59.heap.size V59).drew | assumption | exact ((Below.refl V59.heap.size V59).alloc (Nat.le_refl _) (.cells #[.int .i64 0, .int .i64 0] 25)).drew | exact Below.alloc (by assumption) (Below.size (by assumption)) (.cells #[.int .i64 0, .int .i64 0] 25)) hb
                     first
                       | (have hnu : AtS 25 #[.int .i64 0, .int .i64 0] V59 _ _ := AtS.old ((by assumption : AtS 25 #[.int .i64 0, .int .i64 0] V59 _ _)) hb; have z0 := posx.at_cell hnu 0 (.int .i64 0) rfl; have y0 := AtS.frozen hnu 0; have z1 := posx.at_cell hnu 1 (.int .i64 0) rfl; have y1 := AtS.frozen hnu 1; clear hb)
                       | (have hnu : AtS 25 #[.int .i64 0, .int .i64 0] V59 _ _ := AtS.old (AtS.drew (newS 25 #[.int .i64 0, .int .i64 0] V59)) hb; have z0 := posx.at_cell hnu 0 (.int .i64 0) rfl; have y0 := AtS.frozen hnu 0; have z1 := posx.at_cell hnu 1 (.int .i64 0) rfl; have y1 := AtS.frozen hnu 1; clear hb)
                       | (have hnu : AtS 25 #[.int .i64 0, .int .i64 0] V59 _ _ := AtS.old (posx.at_next 25 #[.int .i64 0, .int .i64 0] (by assumption)) hb; have z0 := posx.at_cell hnu 0 (.int .i64 0) rfl; have y0 := AtS.frozen hnu 0; have z1 := posx.at_cell hnu 1 (.int .i64 0) rfl; have y1 := AtS.frozen hnu 1; clear hb)
                       | clear hb))
                all_goals
                  go_wp2_with fail
                  go_meet
                  first
                    | exact ⟨_, rfl, rfl, AtS.set (AtS.set ((by assumption : AtS 25 #[.int .i64 0, .int .i64 0] V59 _ _)) 0 (.int .i64 X)) 1 (.int .i64 Y)⟩
                    | exact ⟨_, rfl, rfl, AtS.set (AtS.set (AtS.drew (newS 25 #[.int .i64 0, .int .i64 0] V59)) 0 (.int .i64 X)) 1 (.int .i64 Y)⟩
                    | exact ⟨_, rfl, rfl, AtS.set (AtS.set (posx.at_next 25 #[.int .i64 0, .int .i64 0] (by assumption)) 0 (.int .i64 X)) 1 (.int .i64 Y)⟩
                    | exact ⟨_, rfl, rfl, posx.at_next 25 #[.int .i64 X, .int .i64 Y] (by assumption)⟩
                    | exact ⟨_, rfl, rfl, (AtS.set (AtS.set (newS 25 #[.int .i64 0, .int .i64 0] V59) 0 (.int .i64 X)) 1 (.int .i64 Y)).drew⟩
              case rest =>
                obtain ⟨g60, rfl, rfl, hg60⟩ := hcut
                have HB60 := Lib.hid (HB57.out.trans (hg60.1.mono HB57.out.size))
                have E60 := Lib.hid (E57.out.old hg60.1)
                have F60 := Lib.hid (F57.out.old hg60.1)
                have B60 := Lib.hid (B57.out.old hg60.1)
                have BR61m := Lib.hid (BR58m.out.trans (hg60.1.mono BR58m.out.size))
                have C60 := Lib.hid (show AtS 25 #[.int .i64 X, .int .i64 Y] w wc g60 from ⟨HB60.out, Nat.le_trans HB57.out.size hg60.2.1, hg60.2.2⟩)
                clear HB57 E57 F57 B57 BR58m CS60
                generalize wc = V62 at *
                go_upto_region 29 with fail
                have b0_ : V62.cell? ⟨g57, 0, none⟩ = some (.bool o2) := B60.out.cell 0
                have b1_ : V62.cell? ⟨g57, 1, none⟩ = some (.int .i64 a2) := B60.out.cell 1
                have b2_ : V62.cell? ⟨g57, 2, none⟩ = some (.int .i64 b2) := B60.out.cell 2
                have blt_ := B60.out.2.2.1
                have f0_ : V62.cell? ⟨b50 + 1, 0, none⟩ = some (.bool o2) := F60.out.cell 0
                have f1_ : V62.cell? ⟨b50 + 1, 1, none⟩ = some (.int .i64 a2) := F60.out.cell 1
                have f2_ : V62.cell? ⟨b50 + 1, 2, none⟩ = some (.int .i64 b2) := F60.out.cell 2
                have flt_ := F60.out.2.2.1
                have c0_ : V62.cell? ⟨g60, 0, none⟩ = some (.int .i64 X) := C60.out.cell 0
                have c1_ : V62.cell? ⟨g60, 1, none⟩ = some (.int .i64 Y) := C60.out.cell 1
                have clt_ := C60.out.2.2.1
                obtain ⟨m0, m1⟩ := MC.out _ BR61m.out
                have e2 := bool_eq_self o2
                have e3 := int_eq_self a2
                have e4 := int_eq_self b2
                go_quiet ((go_at_call 18; first | (with_reducible exact VA1.out _ _) | (with_reducible exact VA2.out _ _)))
                go_wp2_with fail
                go_roundw
                case rel => exact ⟨k + 1, by omega, by go_num, aid.below_drewN (BRW.out.trans (BR61m.out.mono BRW.out.size)) _⟩
                case measure => simp [intOf]; omega
          · obtain rfl : k = N4 := by omega
            have HBX := Lib.hid (HB54.out.trans (hbr.mono HB54.out.size))
            clear hbr HV FI g3 g4 g5 HB54 E54 F54 M55r
            go_wp2_with fail
            refine (drawt7.decodePair A n c _ hn (Bytes_below H.out HBX.out)).mono ?_
            rintro e V63 ⟨o5, a5, b5, o6, a6, b6, rfl, h63⟩
            have HB63 := Lib.hid (HBX.out.trans (h63.mono HBX.out.size))
            clear HBX h63
            have PI := Lib.hid (fun w => posm.decodePair o5 a5 b5 o6 a6 b6 w)
            have PS := Lib.hid (fun w => posu.decodePair o5 a5 b5 o6 a6 b6 w)
            have g1 := int_eq_self (dpV o5 a5 b5 o6 a6 b6 a5 a6)
            have g2 := int_eq_self (dpV o5 a5 b5 o6 a6 b6 b5 b6)
            have g3 := bool_eq_self (dpB o5 a5 b5 o6 a6 b6)
            generalize dpV o5 a5 b5 o6 a6 b6 a5 a6 = x9 at *
            generalize dpV o5 a5 b5 o6 a6 b6 b5 b6 = y9 at *
            generalize dpB o5 a5 b5 o6 a6 b6 = k9 at *
            have I64 := Lib.hid (newS 29 #[.bool o5, .int .i64 a5, .int .i64 b5] V63)
            have HB64a := Lib.hid (HB63.out.alloc HB63.out.size (.cells #[.bool o5, .int .i64 a5, .int .i64 b5] 29))
            clear HB63
            have J64 : Hid (AtS 29 #[.bool o6, .int .i64 a6, .int .i64 b6] V63 ((V63.alloc (.cells #[.bool o5, .int .i64 a5, .int .i64 b5] 29)).alloc (.cells #[.bool o6, .int .i64 a6, .int .i64 b6] 29)) (V63.heap.size + 1)) := Lib.hid (by have := (I64.out).next 29 #[.bool o6, .int .i64 a6, .int .i64 b6]; simpa only [World.size_alloc] using this)
            have I64xa := Lib.hid (I64.out.alloc (.cells #[.bool o6, .int .i64 a6, .int .i64 b6] 29))
            clear I64
            have HB64xa := Lib.hid (HB64a.out.alloc HB64a.out.size (.cells #[.bool o6, .int .i64 a6, .int .i64 b6] 29))
            clear HB64a
            go_wp2_with fail
            generalize ((V63.alloc (.cells #[.bool o5, .int .i64 a5, .int .i64 b5] 29)).alloc (.cells #[.bool o6, .int .i64 a6, .int .i64 b6] 29)) = V65 at *
            generalize V63.heap.size = b65 at *
            refine (PI.out V65).mono ?_
            rintro e V66 ⟨rfl, h66⟩
            have HB66 := Lib.hid (HB64xa.out.trans (h66.mono HB64xa.out.size))
            have I66 := Lib.hid (I64xa.out.old h66)
            have J66 := Lib.hid (J64.out.old h66)
            clear HB64xa I64xa J64 h66
            have K67 := Lib.hid (newS 25 #[.int .i64 x9, .int .i64 y9] V66)
            have I67a := Lib.hid (I66.out.alloc (.cells #[.int .i64 x9, .int .i64 y9] 25))
            clear I66
            have J67a := Lib.hid (J66.out.alloc (.cells #[.int .i64 x9, .int .i64 y9] 25))
            clear J66
            have HB67a := Lib.hid (HB66.out.alloc HB66.out.size (.cells #[.int .i64 x9, .int .i64 y9] 25))
            clear HB66
            have i0_ : (V66.alloc (.cells #[.int .i64 x9, .int .i64 y9] 25)).cell? ⟨b65, 0, none⟩ = some (.bool o5) := I67a.out.cell 0
            have i1_ : (V66.alloc (.cells #[.int .i64 x9, .int .i64 y9] 25)).cell? ⟨b65, 1, none⟩ = some (.int .i64 a5) := I67a.out.cell 1
            have i2_ : (V66.alloc (.cells #[.int .i64 x9, .int .i64 y9] 25)).cell? ⟨b65, 2, none⟩ = some (.int .i64 b5) := I67a.out.cell 2
            have ilt_ := I67a.out.2.2.1
            have j0_ : (V66.alloc (.cells #[.int .i64 x9, .int .i64 y9] 25)).cell? ⟨b65 + 1, 0, none⟩ = some (.bool o6) := J67a.out.cell 0
            have j1_ : (V66.alloc (.cells #[.int .i64 x9, .int .i64 y9] 25)).cell? ⟨b65 + 1, 1, none⟩ = some (.int .i64 a6) := J67a.out.cell 1
            have j2_ : (V66.alloc (.cells #[.int .i64 x9, .int .i64 y9] 25)).cell? ⟨b65 + 1, 2, none⟩ = some (.int .i64 b6) := J67a.out.cell 2
            have jlt_ := J67a.out.2.2.1
            go_wp2_with fail
            clear i0_ i1_ i2_ ilt_ j0_ j1_ j2_ jlt_
            generalize (V66.alloc (.cells #[.int .i64 x9, .int .i64 y9] 25)) = V68 at *
            generalize V66.heap.size = b68 at *
            refine (PS.out V68).mono ?_
            rintro e V69 ⟨rfl, h69⟩
            have HB69 := Lib.hid (HB67a.out.trans (h69.mono HB67a.out.size))
            have I69 := Lib.hid (I67a.out.old h69)
            have J69 := Lib.hid (J67a.out.old h69)
            have K69 := Lib.hid (K67.out.old h69)
            clear HB67a I67a J67a K67 h69
            have L70 := Lib.hid (newS 25 #[.int .i64 x9, .int .i64 y9] V69)
            have I70a := Lib.hid (I69.out.alloc (.cells #[.int .i64 x9, .int .i64 y9] 25))
            clear I69
            have J70a := Lib.hid (J69.out.alloc (.cells #[.int .i64 x9, .int .i64 y9] 25))
            clear J69
            have K70a := Lib.hid (K69.out.alloc (.cells #[.int .i64 x9, .int .i64 y9] 25))
            clear K69
            have HB70a := Lib.hid (HB69.out.alloc HB69.out.size (.cells #[.int .i64 x9, .int .i64 y9] 25))
            clear HB69
            have k0_ : (V69.alloc (.cells #[.int .i64 x9, .int .i64 y9] 25)).cell? ⟨b68, 0, none⟩ = some (.int .i64 x9) := K70a.out.cell 0
            have k1_ : (V69.alloc (.cells #[.int .i64 x9, .int .i64 y9] 25)).cell? ⟨b68, 1, none⟩ = some (.int .i64 y9) := K70a.out.cell 1
            have klt_ := K70a.out.2.2.1
            have l0_ : (V69.alloc (.cells #[.int .i64 x9, .int .i64 y9] 25)).cell? ⟨V69.heap.size, 0, none⟩ = some (.int .i64 x9) := L70.out.cell 0
            have l1_ : (V69.alloc (.cells #[.int .i64 x9, .int .i64 y9] 25)).cell? ⟨V69.heap.size, 1, none⟩ = some (.int .i64 y9) := L70.out.cell 1
            have llt_ := L70.out.2.2.1
            go_wp2_with fail
            clear k0_ k1_ klt_ l0_ l1_ llt_
            generalize (V69.alloc (.cells #[.int .i64 x9, .int .i64 y9] 25)) = V71 at *
            generalize V69.heap.size = b71 at *
            go_ret
            exact ⟨rfl, HB70a.out⟩

theorem own : ownKnob Try.prog.godebug = none := by kernel_rfl
theorem laidOut : laidOutB Try.prog = true := by kernel_rfl

set_option maxRecDepth 100000 in
theorem lifted (os : Os) (started : os.Started) (H : Type) (enc : TypeId × Value → H) :
    ReturnsInHanded {} Try.checked os 3 .any (Rows.fnPositionsSpec.pre6 enc Try.prog Try.f3 Rows.fnPositionsRow.domain false) (Rows.fnPositionsSpec.post enc Try.prog Try.f3 false true false false) := by
  refine returnsInHanded_of_change (C := Try.checked) own started (by kernel_rfl) Try.func3
    (ChangeSpec.witness6 (enc := enc) (C := Try.checked) false ⟨#[], #[.slice none 0 0], []⟩ 8 (by kernel_rfl) (by kernel_rfl) (by kernel_rfl) (by kernel_rfl)) ?_
  intro W base args ds gs before hval0 hW hcnd _
  have hval : ∀ (j : Nat) t v, Try.f3.params[j]? = some t → args[j]? = some v → Value.okWide Try.prog W .any base t v := hval0
  have hW' := hW
  obtain ⟨p, q, hA0, hV, rfl, hfz, hnd⟩ := hW
  have hA : DataW.TrodAll enc Try.prog W 0 (fun _ => true) true Try.f3.params.toList args.toList ds p := hA0
  rw [Try.params3] at hA hval
  obtain ⟨v0, vs0, d0, ds0, p0, q0, hargs, rfl, rfl, h0, r0⟩ := trodAll_cons hA
  obtain ⟨rfl, rfl, rfl⟩ := trodAll_nil r0
  obtain rfl : args = #[v0] := by cases args; simp_all
  obtain ⟨rfl, rfl⟩ := trodVars_none hV
  obtain ⟨a0, len0, cap0, rfl⟩ := okWide_slice Try.underlying22 (hval 0 22 v0 rfl rfl)
  have k0 := h0
  have lt0 : ∀ x ∈ p0, x.block < W.heap.size := by obtain ⟨m, hm⟩ := k0; exact DataW.trod_lt m _ _ _ hm
  obtain ⟨z0, w0⟩ : ∃ zs, IsRow .u8 W a0 len0 cap0 zs := by
    obtain ⟨fuel, hf⟩ := h0
    rcases open_ints Try.underlying22 Try.underlying5 (by kernel_rfl) hf with ⟨hcs, _⟩ | ⟨x, l, c, zs, hcs, _, hl, hm, hz, _, hcell, hwz⟩
    · simp [Value.cells] at hcs
      obtain ⟨rfl, rfl, rfl⟩ := hcs
      exact ⟨[], .inl ⟨rfl, rfl, rfl, rfl⟩⟩
    · simp [Value.cells] at hcs
      obtain ⟨rfl, rfl, rfl⟩ := hcs
      exact ⟨zs, .inr ⟨_, rfl, hl, hm, by simpa using hz, hcell, hwz⟩⟩
  clear hA0 hval0
  refine (walk a0 len0 cap0 z0 W w0).mono fun e W' ⟨he, bel⟩ => ?_
  subst he
  exact ⟨_, rfl, _, _, _, [], _, [], hW', trodAll_mk1 (shut_bool Try.underlying4 _), (trodAll_cons_mk (Below.trod laidOut (by kernel_rfl) (of_decide_eq_true (by kernel_rfl)) k0 bel lt0) trodAll_mk0), rfl, bel.frame _, fun h => by cases h⟩

theorem over : Rows.fnPositionsRow.holds Try.pinned (OpenSpec.ofChange Rows.fnPositionsSpec) :=
  OpenClaim.holds_of_wide 3 Try.f3 rfl rfl rfl rfl rfl rfl rfl ⟨rfl, rfl, rfl, rfl, rfl⟩ rfl rfl rfl rfl rfl (by kernel_rfl) Try.func3 (by kernel_rfl)
    (of_decide_eq_true (by kernel_rfl)) (by unfold Func.isWrapper; first | (rw [if_pos (by decide +kernel)]; kernel_rfl) | (rw [if_neg (by decide +kernel)]; exact ⟨rfl, rfl⟩))
    (fun os started H enc _ => lifted os started H enc)

theorem proved : Rows.FnPositionsSaid :=
  over
#print axioms proved
end Go.Proofs.Ytelkflgmjfmadaa.fnPositions
