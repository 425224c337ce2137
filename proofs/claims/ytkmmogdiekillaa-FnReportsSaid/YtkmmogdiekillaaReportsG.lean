/- For every code of at most 65536 bytes (and trivially for a longer one) the law FnReports returns true: reports are packed and data unpacked as the model does it, a valid report is recovered from its data and data from their report; the nearest place with a report has the report and is the only place with it in its own range; all places with a report have it. No condition of mine. -/
import Derived.Test.YtkmmogdiekillaaRows
import Derived.Test.YtkmmogdiekillaaDrawR7
import Derived.Test.YtkmmogdiekillaaPosFit
import Derived.Test.YtkmmogdiekillaaPosE
import Derived.Test.YtkmmogdiekillaaPosV
import Derived.Test.YtkmmogdiekillaaPosZ
import Derived.Test.YtkmmogdiekillaaCode
import Derived.WalkKit
import Derived.ProofKit
import Derived.OpenShut
import Derived.ShutString
import Derived.ChangeOld
import Derived.Below
import Derived.BigQuiet
import Derived.Deep.QuietTactic
namespace Go.Proofs.Ytkmmogdiekillaa.fnReports
open Go.ChangeShapes Go.WideShapes Go.ChangeAt Go.RowKit
open Go.ChangeMaps (open_string shut_string)
open Go.Proofs.Ytkmmogdiekillaa.code_ Go.Proofs.Ytkmmogdiekillaa.cur Go.Proofs.Ytkmmogdiekillaa.ats Go.Proofs.Ytkmmogdiekillaa.pos Go.Proofs.Ytkmmogdiekillaa.lst Go.Proofs.Ytkmmogdiekillaa.ints
set_option linter.unusedVariables false

theorem bool_ne_self (b : Bool) : (b != b) = false := by simp
theorem int_ne_self (b : Int) : (b != b) = false := by simp
theorem int_eq_self (b : Int) : (b == b) = true := by simp
theorem bool_eq_self (b : Bool) : (b == b) = true := by simp

set_option maxRecDepth 100000 in
set_option maxHeartbeats 16000000 in
theorem walk (A : Option Addr) (n c : Nat) (z : List Int) (w : World) (w0 : IsRow .u8 w A n c z) :
    Calls Try.prog 4 #[.slice A n c] w fun e w' => e = .returned (.bool true) ∧ Below w.heap.size w w' := by
  obtain ⟨hby, hnc, -⟩ := bytes_of w0
  clear w0
  have hv := Lib.hid (fun w => vBig A n c w)
  by_cases hbig : (65536 : Int) < (n : Int)
  · clear hby
    go_enter Try.func4, Try.ntmps4
    go_wp2_with fail
    refine (hv.out _).mono ?_
    rintro e w1 ⟨rfl, rfl⟩
    go_wp2_with fail
    go_ret
    exact ⟨rfl, Below.refl _ _⟩
  · have hd : decide ((65536 : Int) < (n : Int)) = false := by simpa using hbig
    have hn : n ≤ 65536 := by omega
    have H := Lib.hid hby
    clear hby hbig hnc
    have HB0 := Lib.hid (Below.refl w.heap.size w)
    go_enter Try.func4, Try.ntmps4
    go_wp2_with fail
    refine (hv.out _).mono ?_
    rintro e wx ⟨rfl, rfl⟩
    clear hd hv
    go_wp2_with fail
    refine (drawq7.packReport A n c _ hn (Bytes_below H.out HB0.out)).mono ?_
    rintro e V1 ⟨o1, a1, b1, rfl, h1⟩
    have HB1 := Lib.hid (HB0.out.trans (h1.mono HB0.out.size))
    clear HB0 h1
    have PI := Lib.hid (fun w => posl.packReport o1 a1 b1 w)
    have UI := Lib.hid (fun w => posl.unpackReport (pkV o1 a1 b1) w)
    have PS := Lib.hid (fun w => post.packReport o1 a1 b1 w)
    have VI := Lib.hid (fun w => posj.isValidReport o1 a1 b1 w)
    have HT := Lib.hid (fun (h : rB o1 a1 b1 = true) => show ukB (pkV o1 a1 b1) = true ∧ o1 = ukO (pkV o1 a1 b1) ∧ a1 = ukA (pkV o1 a1 b1) ∧ b1 = ukV (pkV o1 a1 b1) from ⟨(posfit.pk_back h).1, (posfit.pk_back h).2.1.symm, (posfit.pk_back h).2.2.1.symm, (posfit.pk_back h).2.2.2.symm⟩)
    have g0 := int_ne_self (pkV o1 a1 b1)
    have g1 := bool_ne_self (rB o1 a1 b1)
    have g2 := bool_ne_self o1
    have g3 := int_ne_self a1
    have g4 := int_ne_self b1
    generalize pkV o1 a1 b1 = P1 at *
    generalize rB o1 a1 b1 = q1 at *
    generalize ukB P1 = ub1 at *
    generalize ukO P1 = uo1 at *
    generalize ukA P1 = ua1 at *
    generalize ukV P1 = uv1 at *
    have R2 := Lib.hid (newS 29 #[.bool o1, .int .i64 a1, .int .i64 b1] V1)
    have HB2a := Lib.hid (HB1.out.alloc HB1.out.size (.cells #[.bool o1, .int .i64 a1, .int .i64 b1] 29))
    clear HB1
    go_wp2_with fail
    generalize (V1.alloc (.cells #[.bool o1, .int .i64 a1, .int .i64 b1] 29)) = V3 at *
    generalize V1.heap.size = b3 at *
    refine (PI.out V3).mono ?_
    rintro e V4 ⟨rfl, h4⟩
    have HB4 := Lib.hid (HB2a.out.trans (h4.mono HB2a.out.size))
    have R4 := Lib.hid (R2.out.old h4)
    clear HB2a R2 h4
    go_wp2_with fail
    refine (UI.out V4).mono ?_
    rintro e V5 ⟨rfl, h5⟩
    have HB5 := Lib.hid (HB4.out.trans (h5.mono HB4.out.size))
    have R5 := Lib.hid (R4.out.old h5)
    clear HB4 R4 h5
    have S6 := Lib.hid (newS 29 #[.bool uo1, .int .i64 ua1, .int .i64 uv1] V5)
    have R6a := Lib.hid (R5.out.alloc (.cells #[.bool uo1, .int .i64 ua1, .int .i64 uv1] 29))
    clear R5
    have HB6a := Lib.hid (HB5.out.alloc HB5.out.size (.cells #[.bool uo1, .int .i64 ua1, .int .i64 uv1] 29))
    clear HB5
    have r0_ : (V5.alloc (.cells #[.bool uo1, .int .i64 ua1, .int .i64 uv1] 29)).cell? ⟨b3, 0, none⟩ = some (.bool o1) := R6a.out.cell 0
    have r1_ : (V5.alloc (.cells #[.bool uo1, .int .i64 ua1, .int .i64 uv1] 29)).cell? ⟨b3, 1, none⟩ = some (.int .i64 a1) := R6a.out.cell 1
    have r2_ : (V5.alloc (.cells #[.bool uo1, .int .i64 ua1, .int .i64 uv1] 29)).cell? ⟨b3, 2, none⟩ = some (.int .i64 b1) := R6a.out.cell 2
    have rlt_ := R6a.out.2.2.1
    go_wp2_with fail
    clear r0_ r1_ r2_ rlt_
    generalize (V5.alloc (.cells #[.bool uo1, .int .i64 ua1, .int .i64 uv1] 29)) = V7 at *
    generalize V5.heap.size = b7 at *
    refine (PS.out V7).mono ?_
    rintro e V8 ⟨rfl, h8⟩
    have HB8 := Lib.hid (HB6a.out.trans (h8.mono HB6a.out.size))
    have R8 := Lib.hid (R6a.out.old h8)
    have S8 := Lib.hid (S6.out.old h8)
    clear HB6a R6a S6 h8
    go_upto_region 7 with fail
    have BR9 := Lib.hid (Below.refl V8.heap.size V8)
    go_cut [81] from 56 to 80 (fun p90 wz => p90 = .bool false ∧ Below V8.heap.size V8 wz)
    case first =>
      cases q1
      · have r0_ : V8.cell? ⟨b3, 0, none⟩ = some (.bool o1) := R8.out.cell 0
        have r1_ : V8.cell? ⟨b3, 1, none⟩ = some (.int .i64 a1) := R8.out.cell 1
        have r2_ : V8.cell? ⟨b3, 2, none⟩ = some (.int .i64 b1) := R8.out.cell 2
        have rlt_ := R8.out.2.2.1
        clear HT
        go_wp2_with fail
        clear r0_ r1_ r2_ rlt_
        refine (VI.out V8).mono ?_
        rintro e V10 ⟨rfl, h10⟩
        have HB10 := Lib.hid (HB8.out.trans (h10.mono HB8.out.size))
        have R10 := Lib.hid (R8.out.old h10)
        have S10 := Lib.hid (S8.out.old h10)
        have BR11m := Lib.hid (BR9.out.trans (h10.mono BR9.out.size))
        clear HB8 R8 S8 BR9 h10
        have r0_ : V10.cell? ⟨b3, 0, none⟩ = some (.bool o1) := R10.out.cell 0
        have r1_ : V10.cell? ⟨b3, 1, none⟩ = some (.int .i64 a1) := R10.out.cell 1
        have r2_ : V10.cell? ⟨b3, 2, none⟩ = some (.int .i64 b1) := R10.out.cell 2
        have rlt_ := R10.out.2.2.1
        have s0_ : V10.cell? ⟨b7, 0, none⟩ = some (.bool uo1) := S10.out.cell 0
        have s1_ : V10.cell? ⟨b7, 1, none⟩ = some (.int .i64 ua1) := S10.out.cell 1
        have s2_ : V10.cell? ⟨b7, 2, none⟩ = some (.int .i64 uv1) := S10.out.cell 2
        have slt_ := S10.out.2.2.1
        go_wp2_with fail
        clear r0_ r1_ r2_ rlt_ s0_ s1_ s2_ slt_
        go_meet
        exact ⟨rfl, BR11m.out⟩
      · obtain ⟨rfl, rfl, rfl, rfl⟩ := HT.out (by first | trivial | rfl)
        have r0_ : V8.cell? ⟨b3, 0, none⟩ = some (.bool o1) := R8.out.cell 0
        have r1_ : V8.cell? ⟨b3, 1, none⟩ = some (.int .i64 a1) := R8.out.cell 1
        have r2_ : V8.cell? ⟨b3, 2, none⟩ = some (.int .i64 b1) := R8.out.cell 2
        have rlt_ := R8.out.2.2.1
        clear HT
        go_wp2_with fail
        clear r0_ r1_ r2_ rlt_
        refine (VI.out V8).mono ?_
        rintro e V12 ⟨rfl, h12⟩
        have HB12 := Lib.hid (HB8.out.trans (h12.mono HB8.out.size))
        have R12 := Lib.hid (R8.out.old h12)
        have S12 := Lib.hid (S8.out.old h12)
        have BR13m := Lib.hid (BR9.out.trans (h12.mono BR9.out.size))
        clear HB8 R8 S8 BR9 h12
        have r0_ : V12.cell? ⟨b3, 0, none⟩ = some (.bool o1) := R12.out.cell 0
        have r1_ : V12.cell? ⟨b3, 1, none⟩ = some (.int .i64 a1) := R12.out.cell 1
        have r2_ : V12.cell? ⟨b3, 2, none⟩ = some (.int .i64 b1) := R12.out.cell 2
        have rlt_ := R12.out.2.2.1
        have s0_ : V12.cell? ⟨b7, 0, none⟩ = some (.bool o1) := S12.out.cell 0
        have s1_ : V12.cell? ⟨b7, 1, none⟩ = some (.int .i64 a1) := S12.out.cell 1
        have s2_ : V12.cell? ⟨b7, 2, none⟩ = some (.int .i64 b1) := S12.out.cell 2
        have slt_ := S12.out.2.2.1
        go_wp2_with fail
        clear r0_ r1_ r2_ rlt_ s0_ s1_ s2_ slt_
        go_meet
        exact ⟨rfl, BR13m.out⟩
    case rest =>
      obtain ⟨rfl, hg9⟩ := hcut
      have HB9c := Lib.hid (HB8.out.trans (hg9.mono HB8.out.size))
      have R9c := Lib.hid (R8.out.old hg9)
      have S9c := Lib.hid (S8.out.old hg9)
      clear HB8 R8 S8 hg9 BR9
      generalize wc = V14 at *
      clear PI UI PS VI HT g0 g1 g2 g3 g4
      go_wp2_with fail
      refine (drawq7.unpackReport A n c _ hn (Bytes_below H.out HB9c.out)).mono ?_
      rintro e V15 ⟨x2, rfl, h15⟩
      have HB15 := Lib.hid (HB9c.out.trans (h15.mono HB9c.out.size))
      have R15 := Lib.hid (R9c.out.old h15)
      have S15 := Lib.hid (S9c.out.old h15)
      clear HB9c R9c S9c h15
      clear R15
      clear S15
      have UI := Lib.hid (fun w => posl.unpackReport x2 w)
      have PI := Lib.hid (fun w => posl.packReport (ukO x2) (ukA x2) (ukV x2) w)
      have US := Lib.hid (fun w => post.unpackReport x2 w)
      have HT := Lib.hid (fun (h : ukB x2 = true) => show rB (ukO x2) (ukA x2) (ukV x2) = true ∧ x2 = pkV (ukO x2) (ukA x2) (ukV x2) from ⟨(posfit.uk_back h).1, (posfit.uk_back h).2.symm⟩)
      have g0 := int_ne_self x2
      have g1 := bool_ne_self (ukB x2)
      have g2 := bool_ne_self (ukO x2)
      have g3 := int_ne_self (ukA x2)
      have g4 := int_ne_self (ukV x2)
      generalize pkV (ukO x2) (ukA x2) (ukV x2) = P2 at *
      generalize rB (ukO x2) (ukA x2) (ukV x2) = q2 at *
      generalize ukO x2 = o2 at *
      generalize ukA x2 = a2 at *
      generalize ukV x2 = b2 at *
      generalize ukB x2 = ub2 at *
      go_wp2_with fail
      refine (UI.out V15).mono ?_
      rintro e V16 ⟨rfl, h16⟩
      have HB16 := Lib.hid (HB15.out.trans (h16.mono HB15.out.size))
      clear HB15 h16
      have T17 := Lib.hid (newS 29 #[.bool o2, .int .i64 a2, .int .i64 b2] V16)
      have HB17a := Lib.hid (HB16.out.alloc HB16.out.size (.cells #[.bool o2, .int .i64 a2, .int .i64 b2] 29))
      clear HB16
      go_wp2_with fail
      generalize (V16.alloc (.cells #[.bool o2, .int .i64 a2, .int .i64 b2] 29)) = V18 at *
      generalize V16.heap.size = b18 at *
      refine (PI.out V18).mono ?_
      rintro e V19 ⟨rfl, h19⟩
      have HB19 := Lib.hid (HB17a.out.trans (h19.mono HB17a.out.size))
      have T19 := Lib.hid (T17.out.old h19)
      clear HB17a T17 h19
      go_wp2_with fail
      refine (US.out V19).mono ?_
      rintro e V20 ⟨rfl, h20⟩
      have HB20 := Lib.hid (HB19.out.trans (h20.mono HB19.out.size))
      have T20 := Lib.hid (T19.out.old h20)
      clear HB19 T19 h20
      have U21 := Lib.hid (newS 29 #[.bool o2, .int .i64 a2, .int .i64 b2] V20)
      have T21a := Lib.hid (T20.out.alloc (.cells #[.bool o2, .int .i64 a2, .int .i64 b2] 29))
      clear T20
      have HB21a := Lib.hid (HB20.out.alloc HB20.out.size (.cells #[.bool o2, .int .i64 a2, .int .i64 b2] 29))
      clear HB20
      go_upto_region 13 with fail
      generalize (V20.alloc (.cells #[.bool o2, .int .i64 a2, .int .i64 b2] 29)) = V22 at *
      generalize V20.heap.size = b22 at *
      have BR23 := Lib.hid (Below.refl V22.heap.size V22)
      go_cut [118] from 99 to 117 (fun p230 wz => p230 = .bool false ∧ Below V22.heap.size V22 wz)
      case first =>
        cases ub2
        · clear HT
          have t0_ : V22.cell? ⟨b18, 0, none⟩ = some (.bool o2) := T21a.out.cell 0
          have t1_ : V22.cell? ⟨b18, 1, none⟩ = some (.int .i64 a2) := T21a.out.cell 1
          have t2_ : V22.cell? ⟨b18, 2, none⟩ = some (.int .i64 b2) := T21a.out.cell 2
          have tlt_ := T21a.out.2.2.1
          have u0_ : V22.cell? ⟨b22, 0, none⟩ = some (.bool o2) := U21.out.cell 0
          have u1_ : V22.cell? ⟨b22, 1, none⟩ = some (.int .i64 a2) := U21.out.cell 1
          have u2_ : V22.cell? ⟨b22, 2, none⟩ = some (.int .i64 b2) := U21.out.cell 2
          have ult_ := U21.out.2.2.1
          go_wp2_with fail
          clear t0_ t1_ t2_ tlt_ u0_ u1_ u2_ ult_
          go_meet
          exact ⟨rfl, BR23.out⟩
        · obtain ⟨rfl, rfl⟩ := HT.out (by first | trivial | rfl)
          clear HT
          have t0_ : V22.cell? ⟨b18, 0, none⟩ = some (.bool o2) := T21a.out.cell 0
          have t1_ : V22.cell? ⟨b18, 1, none⟩ = some (.int .i64 a2) := T21a.out.cell 1
          have t2_ : V22.cell? ⟨b18, 2, none⟩ = some (.int .i64 b2) := T21a.out.cell 2
          have tlt_ := T21a.out.2.2.1
          have u0_ : V22.cell? ⟨b22, 0, none⟩ = some (.bool o2) := U21.out.cell 0
          have u1_ : V22.cell? ⟨b22, 1, none⟩ = some (.int .i64 a2) := U21.out.cell 1
          have u2_ : V22.cell? ⟨b22, 2, none⟩ = some (.int .i64 b2) := U21.out.cell 2
          have ult_ := U21.out.2.2.1
          go_wp2_with fail
          clear t0_ t1_ t2_ tlt_ u0_ u1_ u2_ ult_
          go_meet
          exact ⟨rfl, BR23.out⟩
      case rest =>
        obtain ⟨rfl, hg23⟩ := hcut
        have HB23c := Lib.hid (HB21a.out.trans (hg23.mono HB21a.out.size))
        have T23c := Lib.hid (T21a.out.old hg23)
        have U23c := Lib.hid (U21.out.old hg23)
        clear HB21a T21a U21 hg23 BR23
        generalize wc = V24 at *
        clear PI UI US HT g0 g1 g2 g3 g4
        go_wp2_with fail
        refine (drawq7.decodeNear A n c _ hn (Bytes_below H.out HB23c.out)).mono ?_
        rintro e V25 ⟨o3, a3, b3, x3, y3, rfl, h25⟩
        have HB25 := Lib.hid (HB23c.out.trans (h25.mono HB23c.out.size))
        have T25 := Lib.hid (T23c.out.old h25)
        have U25 := Lib.hid (U23c.out.old h25)
        clear HB23c T23c U23c h25
        clear T25
        clear U25
        have NI := Lib.hid (fun w => posn.decodeNear o3 a3 b3 x3 y3 w)
        have NS := Lib.hid (fun w => posv.decodeNear o3 a3 b3 x3 y3 w)
        have FT := Lib.hid (fun (h : dnB o3 a3 b3 x3 y3 = true) => posfit.near_fit h)
        have g0 := int_ne_self (dnX o3 a3 b3 x3 y3)
        have g1 := int_ne_self (dnY o3 a3 b3 x3 y3)
        have g2 := bool_ne_self (dnB o3 a3 b3 x3 y3)
        generalize dnX o3 a3 b3 x3 y3 = X3 at *
        generalize dnY o3 a3 b3 x3 y3 = Y3 at *
        generalize dnB o3 a3 b3 x3 y3 = k3 at *
        have RI := Lib.hid (fun w => posk.reportOf X3 Y3 o3 w)
        have WI := Lib.hid (fun w => posr.placesWith o3 a3 b3 X3 Y3 X3 Y3 w)
        have g3 := bool_ne_self o3
        have g4 := int_ne_self a3
        have g5 := int_ne_self b3
        have C26 := Lib.hid (newS 29 #[.bool o3, .int .i64 a3, .int .i64 b3] V25)
        have HB26a := Lib.hid (HB25.out.alloc HB25.out.size (.cells #[.bool o3, .int .i64 a3, .int .i64 b3] 29))
        clear HB25
        have D26 : Hid (AtS 25 #[.int .i64 x3, .int .i64 y3] V25 ((V25.alloc (.cells #[.bool o3, .int .i64 a3, .int .i64 b3] 29)).alloc (.cells #[.int .i64 x3, .int .i64 y3] 25)) (V25.heap.size + 1)) := Lib.hid (by have := (C26.out).next 25 #[.int .i64 x3, .int .i64 y3]; simpa only [World.size_alloc] using this)
        have C26xa := Lib.hid (C26.out.alloc (.cells #[.int .i64 x3, .int .i64 y3] 25))
        clear C26
        have HB26xa := Lib.hid (HB26a.out.alloc HB26a.out.size (.cells #[.int .i64 x3, .int .i64 y3] 25))
        clear HB26a
        go_wp2_with fail
        generalize ((V25.alloc (.cells #[.bool o3, .int .i64 a3, .int .i64 b3] 29)).alloc (.cells #[.int .i64 x3, .int .i64 y3] 25)) = V27 at *
        generalize V25.heap.size = b27 at *
        refine (NI.out V27).mono ?_
        rintro e V28 ⟨rfl, h28⟩
        have HB28 := Lib.hid (HB26xa.out.trans (h28.mono HB26xa.out.size))
        have C28 := Lib.hid (C26xa.out.old h28)
        have D28 := Lib.hid (D26.out.old h28)
        clear HB26xa C26xa D26 h28
        have Q29 := Lib.hid (newS 25 #[.int .i64 X3, .int .i64 Y3] V28)
        have C29a := Lib.hid (C28.out.alloc (.cells #[.int .i64 X3, .int .i64 Y3] 25))
        clear C28
        have D29a := Lib.hid (D28.out.alloc (.cells #[.int .i64 X3, .int .i64 Y3] 25))
        clear D28
        have HB29a := Lib.hid (HB28.out.alloc HB28.out.size (.cells #[.int .i64 X3, .int .i64 Y3] 25))
        clear HB28
        have c0_ : (V28.alloc (.cells #[.int .i64 X3, .int .i64 Y3] 25)).cell? ⟨b27, 0, none⟩ = some (.bool o3) := C29a.out.cell 0
        have c1_ : (V28.alloc (.cells #[.int .i64 X3, .int .i64 Y3] 25)).cell? ⟨b27, 1, none⟩ = some (.int .i64 a3) := C29a.out.cell 1
        have c2_ : (V28.alloc (.cells #[.int .i64 X3, .int .i64 Y3] 25)).cell? ⟨b27, 2, none⟩ = some (.int .i64 b3) := C29a.out.cell 2
        have clt_ := C29a.out.2.2.1
        have d0_ : (V28.alloc (.cells #[.int .i64 X3, .int .i64 Y3] 25)).cell? ⟨b27 + 1, 0, none⟩ = some (.int .i64 x3) := D29a.out.cell 0
        have d1_ : (V28.alloc (.cells #[.int .i64 X3, .int .i64 Y3] 25)).cell? ⟨b27 + 1, 1, none⟩ = some (.int .i64 y3) := D29a.out.cell 1
        have dlt_ := D29a.out.2.2.1
        go_wp2_with fail
        clear c0_ c1_ c2_ clt_ d0_ d1_ dlt_
        generalize (V28.alloc (.cells #[.int .i64 X3, .int .i64 Y3] 25)) = V30 at *
        generalize V28.heap.size = b30 at *
        refine (NS.out V30).mono ?_
        rintro e V31 ⟨rfl, h31⟩
        have HB31 := Lib.hid (HB29a.out.trans (h31.mono HB29a.out.size))
        have C31 := Lib.hid (C29a.out.old h31)
        have D31 := Lib.hid (D29a.out.old h31)
        have Q31 := Lib.hid (Q29.out.old h31)
        clear HB29a C29a D29a Q29 h31
        have O32 := Lib.hid (newS 25 #[.int .i64 X3, .int .i64 Y3] V31)
        have C32a := Lib.hid (C31.out.alloc (.cells #[.int .i64 X3, .int .i64 Y3] 25))
        clear C31
        have D32a := Lib.hid (D31.out.alloc (.cells #[.int .i64 X3, .int .i64 Y3] 25))
        clear D31
        have Q32a := Lib.hid (Q31.out.alloc (.cells #[.int .i64 X3, .int .i64 Y3] 25))
        clear Q31
        have HB32a := Lib.hid (HB31.out.alloc HB31.out.size (.cells #[.int .i64 X3, .int .i64 Y3] 25))
        clear HB31
        have q0_ : (V31.alloc (.cells #[.int .i64 X3, .int .i64 Y3] 25)).cell? ⟨b30, 0, none⟩ = some (.int .i64 X3) := Q32a.out.cell 0
        have q1_ : (V31.alloc (.cells #[.int .i64 X3, .int .i64 Y3] 25)).cell? ⟨b30, 1, none⟩ = some (.int .i64 Y3) := Q32a.out.cell 1
        have qlt_ := Q32a.out.2.2.1
        go_upto_if 144 with fail
        clear q0_ q1_ qlt_
        generalize (V31.alloc (.cells #[.int .i64 X3, .int .i64 Y3] 25)) = V33 at *
        generalize V31.heap.size = b33 at *
        have BR34 := Lib.hid (Below.refl V33.heap.size V33)
        go_cut [23, 24, 25, 26] from 145 to 181 (fun p340 p341 p342 p343 wz => Below V33.heap.size V33 wz)
        case first =>
          cases k3
          · go_wp2_with fail
            go_meet
            exact BR34.out
          · have ft := FT.out (by first | trivial | rfl)
            have RJ := Lib.hid (show ∀ w, Calls Try.prog 16 #[.agg #[.int .i64 X3, .int .i64 Y3], .bool o3] w fun e w' => e = .returned (.tuple #[.agg #[.bool o3, .int .i64 a3, .int .i64 b3], .bool true]) ∧ Below w.heap.size w w' from fun w => by have h := RI.out w; rw [ft.p, ft.o', ft.a', ft.b'] at h; exact h)
            have WJ := Lib.hid (show ∀ w, Calls Try.prog 37 #[.agg #[.bool o3, .int .i64 a3, .int .i64 b3], .agg #[.int .i64 X3, .int .i64 Y3], .agg #[.int .i64 X3, .int .i64 Y3]] w fun e w' => ∃ v, e = .returned (.tuple #[v, .bool true]) ∧ w'.ownsRow w.heap.size 25 2 v 1 (cellsI [X3, Y3]) ∧ Below w.heap.size w w' from fun w => by have h := WI.out w; rw [ft.w, ft.n, ft.v] at h; exact h)
            clear ft FT RI WI
            have q0_ : V33.cell? ⟨b30, 0, none⟩ = some (.int .i64 X3) := Q32a.out.cell 0
            have q1_ : V33.cell? ⟨b30, 1, none⟩ = some (.int .i64 Y3) := Q32a.out.cell 1
            have qlt_ := Q32a.out.2.2.1
            have c0_ : V33.cell? ⟨b27, 0, none⟩ = some (.bool o3) := C32a.out.cell 0
            have c1_ : V33.cell? ⟨b27, 1, none⟩ = some (.int .i64 a3) := C32a.out.cell 1
            have c2_ : V33.cell? ⟨b27, 2, none⟩ = some (.int .i64 b3) := C32a.out.cell 2
            have clt_ := C32a.out.2.2.1
            go_wp2_with fail
            clear q0_ q1_ qlt_ c0_ c1_ c2_ clt_
            refine (RJ.out V33).mono ?_
            rintro e V35 ⟨rfl, h35⟩
            have HB35 := Lib.hid (HB32a.out.trans (h35.mono HB32a.out.size))
            have C35 := Lib.hid (C32a.out.old h35)
            have D35 := Lib.hid (D32a.out.old h35)
            have Q35 := Lib.hid (Q32a.out.old h35)
            have O35 := Lib.hid (O32.out.old h35)
            have BR36m := Lib.hid (BR34.out.trans (h35.mono BR34.out.size))
            clear HB32a C32a D32a Q32a O32 BR34 h35
            have B37 := Lib.hid (newS 29 #[.bool o3, .int .i64 a3, .int .i64 b3] V35)
            have C37a := Lib.hid (C35.out.alloc (.cells #[.bool o3, .int .i64 a3, .int .i64 b3] 29))
            clear C35
            have D37a := Lib.hid (D35.out.alloc (.cells #[.bool o3, .int .i64 a3, .int .i64 b3] 29))
            clear D35
            have Q37a := Lib.hid (Q35.out.alloc (.cells #[.bool o3, .int .i64 a3, .int .i64 b3] 29))
            clear Q35
            have O37a := Lib.hid (O35.out.alloc (.cells #[.bool o3, .int .i64 a3, .int .i64 b3] 29))
            clear O35
            have BR37d := Lib.hid (BR36m.out.alloc BR36m.out.size (.cells #[.bool o3, .int .i64 a3, .int .i64 b3] 29))
            clear BR36m
            have HB37a := Lib.hid (HB35.out.alloc HB35.out.size (.cells #[.bool o3, .int .i64 a3, .int .i64 b3] 29))
            clear HB35
            have q0_ : (V35.alloc (.cells #[.bool o3, .int .i64 a3, .int .i64 b3] 29)).cell? ⟨b30, 0, none⟩ = some (.int .i64 X3) := Q37a.out.cell 0
            have q1_ : (V35.alloc (.cells #[.bool o3, .int .i64 a3, .int .i64 b3] 29)).cell? ⟨b30, 1, none⟩ = some (.int .i64 Y3) := Q37a.out.cell 1
            have qlt_ := Q37a.out.2.2.1
            have c0_ : (V35.alloc (.cells #[.bool o3, .int .i64 a3, .int .i64 b3] 29)).cell? ⟨b27, 0, none⟩ = some (.bool o3) := C37a.out.cell 0
            have c1_ : (V35.alloc (.cells #[.bool o3, .int .i64 a3, .int .i64 b3] 29)).cell? ⟨b27, 1, none⟩ = some (.int .i64 a3) := C37a.out.cell 1
            have c2_ : (V35.alloc (.cells #[.bool o3, .int .i64 a3, .int .i64 b3] 29)).cell? ⟨b27, 2, none⟩ = some (.int .i64 b3) := C37a.out.cell 2
            have clt_ := C37a.out.2.2.1
            go_wp2_with fail
            clear q0_ q1_ qlt_ c0_ c1_ c2_ clt_
            generalize (V35.alloc (.cells #[.bool o3, .int .i64 a3, .int .i64 b3] 29)) = V38 at *
            generalize V35.heap.size = b38 at *
            refine (WJ.out V38).mono ?_
            rintro e V39 ⟨v39, rfl, o39, h39⟩
            obtain ⟨AM, cM, rfl⟩ := lst.own_sliceZ o39
            have HB39 := Lib.hid (HB37a.out.trans (h39.mono HB37a.out.size))
            have C39 := Lib.hid (C37a.out.old h39)
            have D39 := Lib.hid (D37a.out.old h39)
            have Q39 := Lib.hid (Q37a.out.old h39)
            have O39 := Lib.hid (O37a.out.old h39)
            have B39 := Lib.hid (B37.out.old h39)
            have BR40m := Lib.hid (BR37d.out.trans (h39.mono BR37d.out.size))
            have M39 := Lib.hid (lst.RdZ.of_own o39 rfl)
            clear HB37a C37a D37a Q37a O37a B37 BR37d h39 o39
            go_upto_region 23 with fail
            have b0_ : V39.cell? ⟨b38, 0, none⟩ = some (.bool o3) := B39.out.cell 0
            have b1_ : V39.cell? ⟨b38, 1, none⟩ = some (.int .i64 a3) := B39.out.cell 1
            have b2_ : V39.cell? ⟨b38, 2, none⟩ = some (.int .i64 b3) := B39.out.cell 2
            have blt_ := B39.out.2.2.1
            have c0_ : V39.cell? ⟨b27, 0, none⟩ = some (.bool o3) := C39.out.cell 0
            have c1_ : V39.cell? ⟨b27, 1, none⟩ = some (.int .i64 a3) := C39.out.cell 1
            have c2_ : V39.cell? ⟨b27, 2, none⟩ = some (.int .i64 b3) := C39.out.cell 2
            have clt_ := C39.out.2.2.1
            have q0_ : V39.cell? ⟨b30, 0, none⟩ = some (.int .i64 X3) := Q39.out.cell 0
            have q1_ : V39.cell? ⟨b30, 1, none⟩ = some (.int .i64 Y3) := Q39.out.cell 1
            have qlt_ := Q39.out.2.2.1
            have e0 := int_eq_self X3
            have e1 := int_eq_self Y3
            have e2 := bool_eq_self o3
            have e3 := int_eq_self a3
            have e4 := int_eq_self b3
            obtain ⟨bM, oM, rfl, -, n0, n1⟩ := pose.cells2 M39.out (Nat.lt_succ_self 0)
            have m0 : V39.cell? ⟨bM, oM, none⟩ = some (.int .i64 X3) := by simpa [fld] using n0
            have m1 : V39.cell? ⟨bM, oM + 1, none⟩ = some (.int .i64 Y3) := by simpa [fld] using n1
            clear n0 n1
            go_quiet (fail)
            go_wp2_with fail
            go_meet
            exact aid.below_drewN BR40m.out _
        case rest =>
          have hg34 := hcut
          have HB34c := Lib.hid (HB32a.out.trans (hg34.mono HB32a.out.size))
          have C34c := Lib.hid (C32a.out.old hg34)
          have D34c := Lib.hid (D32a.out.old hg34)
          have Q34c := Lib.hid (Q32a.out.old hg34)
          have O34c := Lib.hid (O32.out.old hg34)
          clear HB32a C32a D32a Q32a O32 hg34 BR34
          generalize wc = V41 at *
          clear NI NS FT RI WI g0 g1 g2 g3 g4 g5
          go_wp2_with fail
          refine (drawr7.placesWith A n c _ hn (Bytes_below H.out HB34c.out)).mono ?_
          rintro e V42 ⟨o4, a4, b4, lx, ly, hx, hy, rfl, h42⟩
          have HB42 := Lib.hid (HB34c.out.trans (h42.mono HB34c.out.size))
          have C42 := Lib.hid (C34c.out.old h42)
          have D42 := Lib.hid (D34c.out.old h42)
          have Q42 := Lib.hid (Q34c.out.old h42)
          have O42 := Lib.hid (O34c.out.old h42)
          clear HB34c C34c D34c Q34c O34c h42
          clear C42
          clear D42
          clear Q42
          clear O42
          have GI := Lib.hid (fun w => posr.placesWith o4 a4 b4 lx ly hx hy w)
          have GS := Lib.hid (fun w => posz.placesWith o4 a4 b4 lx ly hx hy w)
          have FI := Lib.hid (fun (k : Nat) (h : k < pwN o4 a4 b4 lx ly hx hy) => posfit.pw_fit h)
          have hL := pw_length o4 a4 b4 lx ly hx hy
          have hN : pwN o4 a4 b4 lx ly hx hy ≤ 10000 := posr.pw_le o4 a4 b4 lx ly hx hy
          have g0 := bool_ne_self (pwB o4 a4 b4 lx ly hx hy)
          have g3 := bool_ne_self o4
          have g4 := int_ne_self a4
          have g5 := int_ne_self b4
          generalize pwV o4 a4 b4 lx ly hx hy = Z4 at *
          generalize pwN o4 a4 b4 lx ly hx hy = N4 at *
          generalize pwB o4 a4 b4 lx ly hx hy = q4 at *
          have E43 := Lib.hid (newS 29 #[.bool o4, .int .i64 a4, .int .i64 b4] V42)
          have HB43a := Lib.hid (HB42.out.alloc HB42.out.size (.cells #[.bool o4, .int .i64 a4, .int .i64 b4] 29))
          clear HB42
          have F43 : Hid (AtS 25 #[.int .i64 lx, .int .i64 ly] V42 ((V42.alloc (.cells #[.bool o4, .int .i64 a4, .int .i64 b4] 29)).alloc (.cells #[.int .i64 lx, .int .i64 ly] 25)) (V42.heap.size + 1)) := Lib.hid (by have := (E43.out).next 25 #[.int .i64 lx, .int .i64 ly]; simpa only [World.size_alloc] using this)
          have E43xa := Lib.hid (E43.out.alloc (.cells #[.int .i64 lx, .int .i64 ly] 25))
          clear E43
          have HB43xa := Lib.hid (HB43a.out.alloc HB43a.out.size (.cells #[.int .i64 lx, .int .i64 ly] 25))
          clear HB43a
          have G43 : Hid (AtS 25 #[.int .i64 hx, .int .i64 hy] V42 (((V42.alloc (.cells #[.bool o4, .int .i64 a4, .int .i64 b4] 29)).alloc (.cells #[.int .i64 lx, .int .i64 ly] 25)).alloc (.cells #[.int .i64 hx, .int .i64 hy] 25)) (V42.heap.size + 2)) := Lib.hid (by have := (F43.out).next 25 #[.int .i64 hx, .int .i64 hy]; simpa only [World.size_alloc] using this)
          have E43xxa := Lib.hid (E43xa.out.alloc (.cells #[.int .i64 hx, .int .i64 hy] 25))
          clear E43xa
          have F43xxa := Lib.hid (F43.out.alloc (.cells #[.int .i64 hx, .int .i64 hy] 25))
          clear F43
          have HB43xxa := Lib.hid (HB43xa.out.alloc HB43xa.out.size (.cells #[.int .i64 hx, .int .i64 hy] 25))
          clear HB43xa
          go_wp2_with fail
          generalize (((V42.alloc (.cells #[.bool o4, .int .i64 a4, .int .i64 b4] 29)).alloc (.cells #[.int .i64 lx, .int .i64 ly] 25)).alloc (.cells #[.int .i64 hx, .int .i64 hy] 25)) = V44 at *
          generalize V42.heap.size = b44 at *
          refine (GI.out V44).mono ?_
          rintro e V45 ⟨v45, rfl, o45, h45⟩
          obtain ⟨AM, cM, rfl⟩ := lst.own_sliceZ o45
          have HB45 := Lib.hid (HB43xxa.out.trans (h45.mono HB43xxa.out.size))
          have E45 := Lib.hid (E43xxa.out.old h45)
          have F45 := Lib.hid (F43xxa.out.old h45)
          have G45 := Lib.hid (G43.out.old h45)
          have M45 := Lib.hid (lst.RdZ.of_own o45 hL)
          clear HB43xxa E43xxa F43xxa G43 h45 o45
          have e0_ : V45.cell? ⟨b44, 0, none⟩ = some (.bool o4) := E45.out.cell 0
          have e1_ : V45.cell? ⟨b44, 1, none⟩ = some (.int .i64 a4) := E45.out.cell 1
          have e2_ : V45.cell? ⟨b44, 2, none⟩ = some (.int .i64 b4) := E45.out.cell 2
          have elt_ := E45.out.2.2.1
          have f0_ : V45.cell? ⟨b44 + 1, 0, none⟩ = some (.int .i64 lx) := F45.out.cell 0
          have f1_ : V45.cell? ⟨b44 + 1, 1, none⟩ = some (.int .i64 ly) := F45.out.cell 1
          have flt_ := F45.out.2.2.1
          have g0_ : V45.cell? ⟨b44 + 2, 0, none⟩ = some (.int .i64 hx) := G45.out.cell 0
          have g1_ : V45.cell? ⟨b44 + 2, 1, none⟩ = some (.int .i64 hy) := G45.out.cell 1
          have glt_ := G45.out.2.2.1
          go_wp2_with fail
          clear e0_ e1_ e2_ elt_ f0_ f1_ flt_ g0_ g1_ glt_
          refine (GS.out V45).mono ?_
          rintro e V46 ⟨v46, rfl, o46, h46⟩
          obtain ⟨AK, cK, rfl⟩ := lst.own_sliceZ o46
          have HB46 := Lib.hid (HB45.out.trans (h46.mono HB45.out.size))
          have E46 := Lib.hid (E45.out.old h46)
          have F46 := Lib.hid (F45.out.old h46)
          have G46 := Lib.hid (G45.out.old h46)
          have M47r := Lib.hid (M45.out.next h46)
          have K46 := Lib.hid (lst.RdZ.of_own o46 hL)
          clear HB45 E45 F45 G45 M45 h46 o46
          go_wp2_with fail
          refine (pose.vPlaces Z4 AM AK N4 cM cK V46 (by omega) M47r.out K46.out).mono ?_
          rintro e wx ⟨rfl, j48, rfl⟩
          have HB48 := Lib.hid (HB46.out.trans ((aid.below_drewN (Below.refl _ _) j48).mono HB46.out.size))
          have E48 := Lib.hid (E46.out.old (aid.below_drewN (Below.refl _ _) j48))
          have F48 := Lib.hid (F46.out.old (aid.below_drewN (Below.refl _ _) j48))
          have G48 := Lib.hid (G46.out.old (aid.below_drewN (Below.refl _ _) j48))
          have M49r := Lib.hid (M47r.out.next (aid.below_drewN (Below.refl _ _) j48))
          have K50r := Lib.hid (K46.out.next (aid.below_drewN (Below.refl _ _) j48))
          clear HB46 E46 F46 G46 M47r K46
          generalize V46.drewN j48 = V48 at *
          clear F48
          clear G48
          clear K50r GI GS hL g0
          go_wp2_with fail
          have HV := Lib.hid (Below.refl V48.heap.size V48)
          go_loopw [34] (fun i wr => ∃ k : Nat, k ≤ N4 ∧ i = .int .i64 k ∧ Below V48.heap.size V48 wr) (fun i _ => N4 - (intOf i).toNat)
          case atStart => exact ⟨0, Nat.zero_le _, rfl, HV.out⟩
          case round =>
            obtain ⟨k, hk, rfl, hbr⟩ := hrel
            by_cases hlt : k < N4
            · have hlt2 : (k : Int) < (N4 : Int) := by omega
              obtain ⟨f1, f2, f3, f4⟩ := FI.out k hlt
              have RI := Lib.hid (fun w => posk.reportOf (fld 2 Z4 k 0) (fld 2 Z4 k 1) o4 w)
              have RJ := Lib.hid (show ∀ w, Calls Try.prog 16 #[.agg #[.int .i64 (fld 2 Z4 k 0), .int .i64 (fld 2 Z4 k 1)], .bool o4] w fun e w' => e = .returned (.tuple #[.agg #[.bool o4, .int .i64 a4, .int .i64 b4], .bool true]) ∧ Below w.heap.size w w' from fun w => by have h := RI.out w; rw [f1, f2, f3, f4] at h; exact h)
              obtain ⟨bM, oM, rfl, hbM, m0, m1⟩ := pose.cells2 (M49r.out.next hbr) hlt
              generalize fld 2 Z4 k 0 = x at *
              generalize fld 2 Z4 k 1 = y at *
              have HBW := Lib.hid (HB48.out.trans (hbr.mono HB48.out.size))
              have EW := Lib.hid (E48.out.old hbr)
              have BRW := Lib.hid hbr
              clear f1 f2 f3 f4 RI FI hbr HV HB48 E48 M49r
              go_upto_region 33 with fail
              have CS51 := Lib.hid (show ∀ WZ : World, Below wr.heap.size wr WZ → WZ.cell? ⟨b44, 0, none⟩ = some (.bool o4) ∧ WZ.cell? ⟨b44, 1, none⟩ = some (.int .i64 a4) ∧ WZ.cell? ⟨b44, 2, none⟩ = some (.int .i64 b4) ∧ WZ.cell? ⟨bM, oM + k * 2, none⟩ = some (.int .i64 x) ∧ WZ.cell? ⟨bM, oM + k * 2 + 1, none⟩ = some (.int .i64 y) from fun WZ hz => And.intro (posx.at_cell (EW.out.old hz) 0 (.bool o4) rfl) (And.intro (posx.at_cell (EW.out.old hz) 1 (.int .i64 a4) rfl) (And.intro (posx.at_cell (EW.out.old hz) 2 (.int .i64 b4) rfl) (And.intro (((hz.cell (p := ⟨bM, oM + k * 2, none⟩) hbM).trans m0)) (((hz.cell (p := ⟨bM, oM + k * 2 + 1, none⟩) hbM).trans m1))))))
              go_cut [35, 36] from 217 to 226 (fun p51 q510 wz => ∃ b, p51 = .pointer (some ⟨b, 0, none⟩) ∧ q510 = .bool true ∧ AtS 29 #[.bool o4, .int .i64 a4, .int .i64 b4] wr wz b)
              case first =>
                go_region_held3 (fun w' => w'.cell? ⟨b44, 0, none⟩ = some (.bool o4) ∧ w'.cell? ⟨b44, 1, none⟩ = some (.int .i64 a4) ∧ w'.cell? ⟨b44, 2, none⟩ = some (.int .i64 b4) ∧ w'.cell? ⟨bM, oM + k * 2, none⟩ = some (.int .i64 x) ∧ w'.cell? ⟨bM, oM + k * 2 + 1, none⟩ = some (.int .i64 y)) (first
                  | exact CS51.out _ ((Below.refl wr.heap.size wr).drew)
                  | exact CS51.out _ (by assumption)
                  | exact CS51.out _ (((Below.refl wr.heap.size wr).alloc (Nat.le_refl _) (.cells #[.bool false, .int .i64 0, .int .i64 0] 29)).drew)
                  | exact CS51.out _ (Below.alloc (by assumption) (Below.size (by assumption)) (.cells #[.bool false, .int .i64 0, .int .i64 0] 29))
                  | exact CS51.out _ (AtS.set (AtS.set (AtS.set ((by assumption : AtS 29 #[.bool false, .int .i64 0, .int .i64 0] wr _ _)) 0 (.bool o4)) 1 (.int .i64 a4)) 2 (.int .i64 b4)).1
                  | exact CS51.out _ (AtS.set (AtS.set (AtS.set (AtS.drew (newS 29 #[.bool false, .int .i64 0, .int .i64 0] wr)) 0 (.bool o4)) 1 (.int .i64 a4)) 2 (.int .i64 b4)).1
                  | exact CS51.out _ (AtS.set (AtS.set (AtS.set (posx.at_next 29 #[.bool false, .int .i64 0, .int .i64 0] (by assumption)) 0 (.bool o4)) 1 (.int .i64 a4)) 2 (.int .i64 b4)).1
                  | exact CS51.out _ (Below.alloc (by assumption) (Below.size (by assumption)) (.cells #[.bool o4, .int .i64 a4, .int .i64 b4] 29))
                  | exact CS51.out _ (AtS.set (AtS.set (AtS.set (newS 29 #[.bool false, .int .i64 0, .int .i64 0] wr) 0 (.bool o4)) 1 (.int .i64 a4)) 2 (.int .i64 b4)).drew.1
                  | go_keep) (first
                  | (go_at_call 16; (with_reducible refine (RJ.out _).mono ?_); rintro e w' ⟨rfl, hb⟩
                     have hbl := posx.bl_next (V := wr) (by first | exact (Below.refl wr.heap.size wr).drew | assumption | exact ((Below.refl wr.heap.size wr).alloc (Nat.le_refl _) (.cells #[.bool false, .int .i64 0, .int .i64 0] 29)).drew | exact Below.alloc (by assumption) (Below.size (by assumption)) (.cells #[.bool false, .int .i64 0, .int .i64 0] 29)) hb
                     first
                       | (have hnu : AtS 29 #[.bool false, .int .i64 0, .int .i64 0] wr _ _ := AtS.old ((by assumption : AtS 29 #[.bool false, .int .i64 0, .int .i64 0] wr _ _)) hb; have z0 := posx.at_cell hnu 0 (.bool false) rfl; have y0 := AtS.frozen hnu 0; have z1 := posx.at_cell hnu 1 (.int .i64 0) rfl; have y1 := AtS.frozen hnu 1; have z2 := posx.at_cell hnu 2 (.int .i64 0) rfl; have y2 := AtS.frozen hnu 2; clear hb)
                       | (have hnu : AtS 29 #[.bool false, .int .i64 0, .int .i64 0] wr _ _ := AtS.old (AtS.drew (newS 29 #[.bool false, .int .i64 0, .int .i64 0] wr)) hb; have z0 := posx.at_cell hnu 0 (.bool false) rfl; have y0 := AtS.frozen hnu 0; have z1 := posx.at_cell hnu 1 (.int .i64 0) rfl; have y1 := AtS.frozen hnu 1; have z2 := posx.at_cell hnu 2 (.int .i64 0) rfl; have y2 := AtS.frozen hnu 2; clear hb)
                       | (have hnu : AtS 29 #[.bool false, .int .i64 0, .int .i64 0] wr _ _ := AtS.old (posx.at_next 29 #[.bool false, .int .i64 0, .int .i64 0] (by assumption)) hb; have z0 := posx.at_cell hnu 0 (.bool false) rfl; have y0 := AtS.frozen hnu 0; have z1 := posx.at_cell hnu 1 (.int .i64 0) rfl; have y1 := AtS.frozen hnu 1; have z2 := posx.at_cell hnu 2 (.int .i64 0) rfl; have y2 := AtS.frozen hnu 2; clear hb)
                       | clear hb))
                all_goals
                  go_wp2_with fail
                  go_meet
                  first
                    | exact ⟨_, rfl, rfl, AtS.set (AtS.set (AtS.set ((by assumption : AtS 29 #[.bool false, .int .i64 0, .int .i64 0] wr _ _)) 0 (.bool o4)) 1 (.int .i64 a4)) 2 (.int .i64 b4)⟩
                    | exact ⟨_, rfl, rfl, AtS.set (AtS.set (AtS.set (AtS.drew (newS 29 #[.bool false, .int .i64 0, .int .i64 0] wr)) 0 (.bool o4)) 1 (.int .i64 a4)) 2 (.int .i64 b4)⟩
                    | exact ⟨_, rfl, rfl, AtS.set (AtS.set (AtS.set (posx.at_next 29 #[.bool false, .int .i64 0, .int .i64 0] (by assumption)) 0 (.bool o4)) 1 (.int .i64 a4)) 2 (.int .i64 b4)⟩
                    | exact ⟨_, rfl, rfl, posx.at_next 29 #[.bool o4, .int .i64 a4, .int .i64 b4] (by assumption)⟩
                    | exact ⟨_, rfl, rfl, (AtS.set (AtS.set (AtS.set (newS 29 #[.bool false, .int .i64 0, .int .i64 0] wr) 0 (.bool o4)) 1 (.int .i64 a4)) 2 (.int .i64 b4)).drew⟩
              case rest =>
                obtain ⟨g51, rfl, rfl, hg51⟩ := hcut
                have HB51 := Lib.hid (HBW.out.trans (hg51.1.mono HBW.out.size))
                have E51 := Lib.hid (EW.out.old hg51.1)
                have BR52m := Lib.hid (BRW.out.trans (hg51.1.mono BRW.out.size))
                have B51 := Lib.hid (show AtS 29 #[.bool o4, .int .i64 a4, .int .i64 b4] w wc g51 from ⟨HB51.out, Nat.le_trans HBW.out.size hg51.2.1, hg51.2.2⟩)
                clear HBW EW BRW CS51
                generalize wc = V53 at *
                have b0_ : V53.cell? ⟨g51, 0, none⟩ = some (.bool o4) := B51.out.cell 0
                have b1_ : V53.cell? ⟨g51, 1, none⟩ = some (.int .i64 a4) := B51.out.cell 1
                have b2_ : V53.cell? ⟨g51, 2, none⟩ = some (.int .i64 b4) := B51.out.cell 2
                have blt_ := B51.out.2.2.1
                have e0_ : V53.cell? ⟨b44, 0, none⟩ = some (.bool o4) := E51.out.cell 0
                have e1_ : V53.cell? ⟨b44, 1, none⟩ = some (.int .i64 a4) := E51.out.cell 1
                have e2_ : V53.cell? ⟨b44, 2, none⟩ = some (.int .i64 b4) := E51.out.cell 2
                have elt_ := E51.out.2.2.1
                go_wp2_with fail
                clear b0_ b1_ b2_ blt_ e0_ e1_ e2_ elt_
                go_roundw
                case rel => exact ⟨k + 1, by omega, by go_num, BR52m.out⟩
                case measure => simp [intOf]; omega
            · obtain rfl : k = N4 := by omega
              go_wp2_with fail
              go_ret
              exact ⟨rfl, HB48.out.trans (hbr.mono HB48.out.size)⟩

theorem own : ownKnob Try.prog.godebug = none := by kernel_rfl
theorem laidOut : laidOutB Try.prog = true := by kernel_rfl

set_option maxRecDepth 100000 in
theorem lifted (os : Os) (started : os.Started) (H : Type) (enc : TypeId × Value → H) :
    ReturnsInHanded {} Try.checked os 4 .any (Rows.fnReportsSpec.pre6 enc Try.prog Try.f4 Rows.fnReportsRow.domain false) (Rows.fnReportsSpec.post enc Try.prog Try.f4 false true false false) := by
  refine returnsInHanded_of_change (C := Try.checked) own started (by kernel_rfl) Try.func4
    (ChangeSpec.witness6 (enc := enc) (C := Try.checked) false ⟨#[], #[.slice none 0 0], []⟩ 8 (by kernel_rfl) (by kernel_rfl) (by kernel_rfl) (by kernel_rfl)) ?_
  intro W base args ds gs before hval0 hW hcnd _
  have hval : ∀ (j : Nat) t v, Try.f4.params[j]? = some t → args[j]? = some v → Value.okWide Try.prog W .any base t v := hval0
  have hW' := hW
  obtain ⟨p, q, hA0, hV, rfl, hfz, hnd⟩ := hW
  have hA : DataW.TrodAll enc Try.prog W 0 (fun _ => true) true Try.f4.params.toList args.toList ds p := hA0
  rw [Try.params4] at hA hval
  obtain ⟨v0, vs0, d0, ds0, p0, q0, hargs, rfl, rfl, h0, r0⟩ := trodAll_cons hA
  obtain ⟨rfl, rfl, rfl⟩ := trodAll_nil r0
  obtain rfl : args = #[v0] := by cases args; simp_all
  obtain ⟨rfl, rfl⟩ := trodVars_none hV
  obtain ⟨a0, len0, cap0, rfl⟩ := okWide_slice Try.underlying22 (hval 0 22 v0 rfl rfl)
  have k0 := h0
  have lt0 : ∀ x ∈ p0, x.block < W.heap.size := by obtain ⟨m, hm⟩ := k0; exact DataW.trod_lt m _ _ _ hm
  obtain ⟨z0, w0⟩ : ∃ zs, IsRow .u8 W a0 len0 cap0 zs := by
    obtain ⟨fuel, hf⟩ := h0
    rcases open_ints Try.underlying22 Try.underlying5 (by kernel_rfl) hf with ⟨hcs, _⟩ | ⟨x, l, c, zs, hcs, _, hl, hm, hz, _, hcell, hwz⟩
    · simp [Value.cells] at hcs
      obtain ⟨rfl, rfl, rfl⟩ := hcs
      exact ⟨[], .inl ⟨rfl, rfl, rfl, rfl⟩⟩
    · simp [Value.cells] at hcs
      obtain ⟨rfl, rfl, rfl⟩ := hcs
      exact ⟨zs, .inr ⟨_, rfl, hl, hm, by simpa using hz, hcell, hwz⟩⟩
  clear hA0 hval0
  refine (walk a0 len0 cap0 z0 W w0).mono fun e W' ⟨he, bel⟩ => ?_
  subst he
  exact ⟨_, rfl, _, _, _, [], _, [], hW', trodAll_mk1 (shut_bool Try.underlying4 _), (trodAll_cons_mk (Below.trod laidOut (by kernel_rfl) (of_decide_eq_true (by kernel_rfl)) k0 bel lt0) trodAll_mk0), rfl, bel.frame _, fun h => by cases h⟩

theorem over : Rows.fnReportsRow.holds Try.pinned (OpenSpec.ofChange Rows.fnReportsSpec) :=
  OpenClaim.holds_of_wide 4 Try.f4 rfl rfl rfl rfl rfl rfl rfl ⟨rfl, rfl, rfl, rfl, rfl⟩ rfl rfl rfl rfl rfl (by kernel_rfl) Try.func4 (by kernel_rfl)
    (of_decide_eq_true (by kernel_rfl)) (by unfold Func.isWrapper; first | (rw [if_pos (by decide +kernel)]; kernel_rfl) | (rw [if_neg (by decide +kernel)]; exact ⟨rfl, rfl⟩))
    (fun os started H enc _ => lifted os started H enc)

theorem proved : Rows.FnReportsSaid :=
  over
#print axioms proved
end Go.Proofs.Ytkmmogdiekillaa.fnReports
