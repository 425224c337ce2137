/- For every code of at most 65536 bytes (and trivially for a longer one) the law FnClearances returns true: insertions, conflicts, releases and clearances are those of the model; what was added conflicts with nothing and is what the aircraft is cleared to in its first and its last minute; releasing again changes nothing and leaves no earlier minute. No condition. -/
import Derived.Test.YtglonedhoenkpaaRows
import Derived.Test.YtglonedhoenkpaaDrawU18
import Derived.Test.YtglonedhoenkpaaLvlM
import Derived.Test.YtglonedhoenkpaaLvlX
import Derived.Test.YtglonedhoenkpaaLvlG
import Derived.Test.YtglonedhoenkpaaLvlW
import Derived.Test.YtglonedhoenkpaaLvlD
import Derived.Test.YtglonedhoenkpaaLvlU
import Derived.Test.YtglonedhoenkpaaLvlF
import Derived.Test.YtglonedhoenkpaaLvlV
import Derived.Test.YtglonedhoenkpaaLvlC
import Derived.Test.YtglonedhoenkpaaVClr
import Derived.Test.YtglonedhoenkpaaRPl
import Derived.Test.YtglonedhoenkpaaLvlE
import Derived.Test.YtglonedhoenkpaaIntC
import Derived.Test.YtglonedhoenkpaaCode
import Derived.WalkKit
import Derived.ProofKit
import Derived.OpenShut
import Derived.ShutString
import Derived.ChangeOld
import Derived.Below
import Derived.BigQuiet
import Derived.Deep.QuietTactic
import Derived.Deep.RegionHeld3
import Derived.Deep.CutRange
import Derived.Deep.CutBlock
namespace Go.Proofs.Ytglonedhoenkpaa.fnClearances
open Go.ChangeShapes Go.WideShapes Go.ChangeAt Go.RowKit
open Go.ChangeMaps (open_string shut_string)
open Go.Proofs.Ytglonedhoenkpaa.code_ Go.Proofs.Ytglonedhoenkpaa.cur Go.Proofs.Ytglonedhoenkpaa.ats Go.Proofs.Ytglonedhoenkpaa.lst Go.Proofs.Ytglonedhoenkpaa.ints Go.Proofs.Ytglonedhoenkpaa.lvl Go.Proofs.Ytglonedhoenkpaa.lvlm Go.Proofs.Ytglonedhoenkpaa.drawu18
set_option linter.unusedVariables false

theorem bool_ne_self (b : Bool) : (b != b) = false := by simp
theorem int_ne_self (b : Int) : (b != b) = false := by simp
theorem bool_eq_self (b : Bool) : (b == b) = true := by simp
theorem int_eq_self (b : Int) : (b == b) = true := by simp
theorem own_cap {w : World} {B e s n : Nat} {v : Value} {xs : List Value} (h : w.ownsRow B e s v n xs) : ∃ A c, v = .slice A n c ∧ n ≤ c := by
  rcases h.2 with ⟨rfl, h0⟩ | ⟨g, cap, cur, rfl, _, _, hle, _⟩
  · exact ⟨_, _, by rw [h0], by omega⟩
  · exact ⟨_, _, rfl, hle⟩
theorem own_len1 {w : World} {B e n : Nat} {v : Value} {xs : List Int} (h : w.ownsRow B e 1 v n (cellsI xs)) : xs.length = n := by have := h.1; unfold cellsI at this; simpa using this
theorem own_len5 {w : World} {B e n : Nat} {v : Value} {xs : List Int} (h : w.ownsRow B e 5 v n (cellsI xs)) : xs.length = n * 5 := by have := h.1; unfold cellsI at this; simpa using this

set_option maxRecDepth 100000 in
set_option maxHeartbeats 16000000 in
theorem walk (A : Option Addr) (n c : Nat) (z : List Int) (w : World) (w0 : IsRow .u8 w A n c z) :
    Calls Try.prog 3 #[.slice A n c] w fun e w' => e = .returned (.bool true) ∧ Below w.heap.size w w' := by
  obtain ⟨hby, hnc, -⟩ := bytes_of w0
  clear w0
  have hv := Lib.hid (fun w => rBig A n c w)
  by_cases hbig : (65536 : Int) < (n : Int)
  · clear hby
    go_enter Try.func3, Try.ntmps3
    go_wp2_with fail
    refine (hv.out _).mono ?_
    rintro e w1 ⟨rfl, rfl⟩
    go_wp2_with fail
    go_ret
    exact ⟨rfl, Below.refl _ _⟩
  have hd : decide ((65536 : Int) < (n : Int)) = false := by simpa using hbig
  have hn : n ≤ 65536 := by omega
  have H := Lib.hid hby
  clear hby hbig hnc
  go_enter Try.func3, Try.ntmps3
  go_wp2_with fail
  refine (hv.out _).mono ?_
  rintro e wx ⟨rfl, rfl⟩
  clear hd hv
  have HB0 := Lib.hid (Below.refl w.heap.size w)
  go_wp2_with fail
  refine (drawu18.clearLevels A n c w hn (Bytes_below H.out HB0.out)).mono ?_
  rintro e V1 ⟨v1, k1, zs, x0, x1, x2, x3, x4, rfl, ho1, hk1, h2⟩
  obtain ⟨A1, c1, rfl, hc1⟩ := own_cap ho1
  have HB3 := Lib.hid (HB0.out.trans (h2.mono HB0.out.size))
  clear HB0
  clear h2
  have RX4 := Lib.hid (RdZ.of_own ho1 (own_len5 ho1))
  clear ho1
  have RX5 := Lib.hid (RX4.out.next ((Below.refl V1.heap.size V1).alloc (Nat.le_refl _) (.cells #[.int .i64 x0, .int .i64 x1, .int .i64 x2, .int .i64 x3, .int .i64 x4] 26)))
  clear RX4
  have BX6 := Lib.hid (lvle.at_next 26 #[.int .i64 x0, .int .i64 x1, .int .i64 x2, .int .i64 x3, .int .i64 x4] HB3.out)
  clear HB3
  have HBn := Lib.hid BX6.out.1
  have HB7 := HBn
  clear HBn
  go_upto_region 4 with fail
  generalize (V1.alloc (.cells #[.int .i64 x0, .int .i64 x1, .int .i64 x2, .int .i64 x3, .int .i64 x4] 26)) = WX at *
  have HL1 := RX5.out.1
  have CI := Lib.hid (fun W h1 => lvlg.clearLevels zs x0 x1 x2 x3 x4 A1 k1 c1 W hc1 (by omega) h1)
  have CS := Lib.hid (fun W h1 => lvlw.clearLevels zs x0 x1 x2 x3 x4 A1 k1 c1 W hc1 (by omega) h1)
  have LI := Lib.hid (fun W h1 => lvld.levelConflicts zs x0 x1 x2 x3 x4 A1 k1 c1 W hc1 (by omega) h1)
  have LS := Lib.hid (fun W h1 => lvlu.levelConflicts zs x0 x1 x2 x3 x4 A1 k1 c1 W hc1 (by omega) h1)
  have F1 := Lib.hid (fun (h : ciB zs k1 x0 x1 x2 x3 x4 = true) => ci_free HL1 h)
  have F2 := Lib.hid (fun (h : ciB zs k1 x0 x1 x2 x3 x4 = true) m (h1 : x3 ≤ m) (h2 : m < x4) => ci_at HL1 h h1 h2)
  have F3 := Lib.hid (fun (h : ciB zs k1 x0 x1 x2 x3 x4 = true) => ci_valid h)
  have F4 := Lib.hid (fun (h : ciB zs k1 x0 x1 x2 x3 x4 = true) => ci_x HL1 h)
  have hten := lvlx.ci_ten zs k1 x0 x1 x2 x3 x4
  have hlen := lcV_le zs k1 x0 x1 x2 x3 x4
  clear HL1
  generalize ciV zs k1 x0 x1 x2 x3 x4 = L1 at *
  generalize ciN zs k1 x0 x1 x2 x3 x4 = N1 at *
  generalize ciB zs k1 x0 x1 x2 x3 x4 = O1 at *
  generalize lcV zs k1 x0 x1 x2 x3 x4 = L2 at *
  generalize lcB zs k1 x0 x1 x2 x3 x4 = O2 at *
  obtain ⟨N2, hN2⟩ : ∃ N2, L2.length = N2 := ⟨_, rfl⟩
  have HN2 := Lib.hid hN2
  rw [hN2] at LI LS F1 hlen
  clear hN2
  have n1 := bool_ne_self O1
  have n2 := bool_ne_self O2
  have kx0_ : WX.cell? ⟨V1.heap.size, 0, none⟩ = some (.int .i64 x0) := BX6.out.cell 0
  have kx1_ : WX.cell? ⟨V1.heap.size, 1, none⟩ = some (.int .i64 x1) := BX6.out.cell 1
  have kx2_ : WX.cell? ⟨V1.heap.size, 2, none⟩ = some (.int .i64 x2) := BX6.out.cell 2
  have kx3_ : WX.cell? ⟨V1.heap.size, 3, none⟩ = some (.int .i64 x3) := BX6.out.cell 3
  have kx4_ : WX.cell? ⟨V1.heap.size, 4, none⟩ = some (.int .i64 x4) := BX6.out.cell 4
  go_wp2_with fail
  clear kx0_ kx1_ kx2_ kx3_ kx4_
  refine (CI.out WX RX5.out).mono ?_
  rintro e V8 ⟨vI, rfl, ho10, h9⟩
  obtain ⟨AI, cI, rfl, hcI⟩ := own_cap ho10
  have HB11 := Lib.hid (HB7.out.trans (h9.mono HB7.out.size))
  clear HB7
  have BX12 := Lib.hid (BX6.out.old h9)
  clear BX6
  have RX13 := Lib.hid (RX5.out.next h9)
  clear RX5
  clear h9
  have RX14 := Lib.hid (RdZ.of_own ho10 (own_len5 ho10))
  clear ho10
  have kx0_ : V8.cell? ⟨V1.heap.size, 0, none⟩ = some (.int .i64 x0) := BX12.out.cell 0
  have kx1_ : V8.cell? ⟨V1.heap.size, 1, none⟩ = some (.int .i64 x1) := BX12.out.cell 1
  have kx2_ : V8.cell? ⟨V1.heap.size, 2, none⟩ = some (.int .i64 x2) := BX12.out.cell 2
  have kx3_ : V8.cell? ⟨V1.heap.size, 3, none⟩ = some (.int .i64 x3) := BX12.out.cell 3
  have kx4_ : V8.cell? ⟨V1.heap.size, 4, none⟩ = some (.int .i64 x4) := BX12.out.cell 4
  go_wp2_with fail
  clear kx0_ kx1_ kx2_ kx3_ kx4_
  refine (CS.out V8 RX13.out).mono ?_
  rintro e V15 ⟨vS, rfl, ho17, h16⟩
  obtain ⟨AS, cS, rfl, hcS⟩ := own_cap ho17
  have HB18 := Lib.hid (HB11.out.trans (h16.mono HB11.out.size))
  clear HB11
  have BX19 := Lib.hid (BX12.out.old h16)
  clear BX12
  have RX20 := Lib.hid (RX13.out.next h16)
  clear RX13
  have RX21 := Lib.hid (RX14.out.next h16)
  clear RX14
  clear h16
  have RX22 := Lib.hid (RdZ.of_own ho17 (own_len5 ho17))
  clear ho17
  clear CI CS
  go_wp2_with fail
  refine (vclr.rCleared L1 AI AS N1 cI cS V15 (by omega) RX21.out RX22.out).mono ?_
  rintro e wx ⟨rfl, j23, rfl⟩
  have h24 := aid.below_drewN (Below.refl V15.heap.size V15) j23
  generalize V15.drewN j23 = V25 at *
  have HB26 := Lib.hid (HB18.out.trans (h24.mono HB18.out.size))
  clear HB18
  have BX27 := Lib.hid (BX19.out.old h24)
  clear BX19
  have RX28 := Lib.hid (RX20.out.next h24)
  clear RX20
  have RX29 := Lib.hid (RX21.out.next h24)
  clear RX21
  have RX30 := Lib.hid (RX22.out.next h24)
  clear RX22
  clear h24
  clear RX30
  have kx0_ : V25.cell? ⟨V1.heap.size, 0, none⟩ = some (.int .i64 x0) := BX27.out.cell 0
  have kx1_ : V25.cell? ⟨V1.heap.size, 1, none⟩ = some (.int .i64 x1) := BX27.out.cell 1
  have kx2_ : V25.cell? ⟨V1.heap.size, 2, none⟩ = some (.int .i64 x2) := BX27.out.cell 2
  have kx3_ : V25.cell? ⟨V1.heap.size, 3, none⟩ = some (.int .i64 x3) := BX27.out.cell 3
  have kx4_ : V25.cell? ⟨V1.heap.size, 4, none⟩ = some (.int .i64 x4) := BX27.out.cell 4
  go_wp2_with fail
  clear kx0_ kx1_ kx2_ kx3_ kx4_
  refine (LI.out V25 RX28.out).mono ?_
  rintro e V31 ⟨vC, rfl, ho33, h32⟩
  obtain ⟨AC, cC, rfl, hcC⟩ := own_cap ho33
  have HB34 := Lib.hid (HB26.out.trans (h32.mono HB26.out.size))
  clear HB26
  have BX35 := Lib.hid (BX27.out.old h32)
  clear BX27
  have RX36 := Lib.hid (RX28.out.next h32)
  clear RX28
  have RX37 := Lib.hid (RX29.out.next h32)
  clear RX29
  clear h32
  have RX38 := Lib.hid (intc.rd_of_own ho33 HN2.out)
  clear ho33
  have kx0_ : V31.cell? ⟨V1.heap.size, 0, none⟩ = some (.int .i64 x0) := BX35.out.cell 0
  have kx1_ : V31.cell? ⟨V1.heap.size, 1, none⟩ = some (.int .i64 x1) := BX35.out.cell 1
  have kx2_ : V31.cell? ⟨V1.heap.size, 2, none⟩ = some (.int .i64 x2) := BX35.out.cell 2
  have kx3_ : V31.cell? ⟨V1.heap.size, 3, none⟩ = some (.int .i64 x3) := BX35.out.cell 3
  have kx4_ : V31.cell? ⟨V1.heap.size, 4, none⟩ = some (.int .i64 x4) := BX35.out.cell 4
  go_wp2_with fail
  clear kx0_ kx1_ kx2_ kx3_ kx4_
  refine (LS.out V31 RX36.out).mono ?_
  rintro e V39 ⟨vD, rfl, ho41, h40⟩
  obtain ⟨AD, cD, rfl, hcD⟩ := own_cap ho41
  have HB42 := Lib.hid (HB34.out.trans (h40.mono HB34.out.size))
  clear HB34
  have BX43 := Lib.hid (BX35.out.old h40)
  clear BX35
  have RX44 := Lib.hid (RX36.out.next h40)
  clear RX36
  have RX45 := Lib.hid (RX37.out.next h40)
  clear RX37
  have RX46 := Lib.hid (RX38.out.next h40)
  clear RX38
  clear h40
  have RX47 := Lib.hid (intc.rd_of_own ho41 HN2.out)
  clear ho41
  clear LI LS
  clear RX44
  have RI := Lib.hid (rpl.rInts L2 AC AD N2 cC cD V39 (by omega) RX46.out RX47.out)
  go_upto_region 10 with fail
  go_cut [97] from 77 to 97 (fun s wz => s = .bool false ∧ Below V39.heap.size V39 wz)
  case first =>
    cases O1
    · go_wp2_with fail
      refine RI.out.mono ?_
      rintro e wx ⟨rfl, jx, rfl⟩
      go_wp2_with fail
      go_meet
      exact ⟨rfl, aid.below_drewN (Below.refl _ _) jx⟩
    · obtain ⟨f1, f2⟩ := F1.out (by trivial)
      subst f1
      have f2i : ((N2 : Int) != 0) = false := by rw [f2]; rfl
      have f2n : (N2 != 0) = false := by rw [f2]; rfl
      clear f2 F1 F2 F3 F4
      go_wp2_with fail
      refine RI.out.mono ?_
      rintro e wx ⟨rfl, jx, rfl⟩
      go_wp2_with fail
      go_meet
      exact ⟨rfl, aid.below_drewN (Below.refl _ _) jx⟩
  case rest =>
    obtain ⟨rfl, hbc⟩ := hcut
    clear RX46
    clear RX47
    have HB48 := Lib.hid (HB42.out.trans (hbc.mono HB42.out.size))
    clear HB42
    have BX49 := Lib.hid (BX43.out.old hbc)
    clear BX43
    have RX50 := Lib.hid (RX45.out.next hbc)
    clear RX45
    clear hbc
    clear RI F1 n2
    generalize wc = VA at *
    have CA := Lib.hid (fun m W h1 => lvld.clearedAt L1 x0 m AI N1 cI W hcI (by omega) h1)
    have CV := Lib.hid (fun W h1 => lvlc.isValidClearances L1 AI N1 cI W hcI (by omega) h1)
    go_upto_if 98 with fail
    go_cut [13, 14, 15, 16, 17, 18] from 99 to 152 (fun p13 p14 p15 p16 p17 p18 wz => Below VA.heap.size VA wz)
    case first =>
      cases O1
      · go_wp2_with fail
        go_meet
        exact Below.refl _ _
      · have f4 := F4.out (by trivial)
        obtain ⟨a1, a2, a3⟩ := F2.out (by trivial) x3 (by omega) (by omega)
        obtain ⟨b1, b2, b3⟩ := F2.out (by trivial) (x4 - 1) (by omega) (by omega)
        have f3 := F3.out (by trivial)
        have K1 := CA.out x3 VA RX50.out
        have K2 := fun W h => CA.out (x4 - 1) W h
        have K3 := fun W h => CV.out W h
        rw [a1, a2, a3] at K1
        rw [b1, b2, b3] at K2
        rw [f3] at K3
        have e1 : IntKind.i64.wrap (x4 - 1) = x4 - 1 := IntWalk.i64_in _ (by omega)
        have K1 := Lib.hid K1
        have K2 := Lib.hid K2
        have K3 := Lib.hid K3
        have m1 := int_ne_self x1
        have m2 := int_ne_self x2
        clear f4 a1 a2 a3 b1 b2 b3 f3 F2 F3 F4 CA CV
        generalize hx : x4 - 1 = y4 at *
        have kx0_ : VA.cell? ⟨V1.heap.size, 0, none⟩ = some (.int .i64 x0) := BX49.out.cell 0
        have kx1_ : VA.cell? ⟨V1.heap.size, 1, none⟩ = some (.int .i64 x1) := BX49.out.cell 1
        have kx2_ : VA.cell? ⟨V1.heap.size, 2, none⟩ = some (.int .i64 x2) := BX49.out.cell 2
        have kx3_ : VA.cell? ⟨V1.heap.size, 3, none⟩ = some (.int .i64 x3) := BX49.out.cell 3
        have kx4_ : VA.cell? ⟨V1.heap.size, 4, none⟩ = some (.int .i64 x4) := BX49.out.cell 4
        go_wp2_with fail
        clear kx0_ kx1_ kx2_ kx3_ kx4_
        refine K1.out.mono ?_
        rintro e W1 ⟨rfl, h1⟩
        have HQ1 := Lib.hid h1
        have HB51 := Lib.hid (HB48.out.trans (h1.mono HB48.out.size))
        have BX52 := Lib.hid (BX49.out.old h1)
        have RX53 := Lib.hid (RX50.out.next h1)
        clear h1
        have kx0_ : W1.cell? ⟨V1.heap.size, 0, none⟩ = some (.int .i64 x0) := BX52.out.cell 0
        have kx1_ : W1.cell? ⟨V1.heap.size, 1, none⟩ = some (.int .i64 x1) := BX52.out.cell 1
        have kx2_ : W1.cell? ⟨V1.heap.size, 2, none⟩ = some (.int .i64 x2) := BX52.out.cell 2
        have kx3_ : W1.cell? ⟨V1.heap.size, 3, none⟩ = some (.int .i64 x3) := BX52.out.cell 3
        have kx4_ : W1.cell? ⟨V1.heap.size, 4, none⟩ = some (.int .i64 x4) := BX52.out.cell 4
        go_wp2_with fail
        clear kx0_ kx1_ kx2_ kx3_ kx4_
        refine (K2.out W1 RX53.out).mono ?_
        rintro e W2 ⟨rfl, h2⟩
        have HQ2 := Lib.hid (HQ1.out.trans (h2.mono HQ1.out.size))
        have HB54 := Lib.hid (HB51.out.trans (h2.mono HB51.out.size))
        have BX55 := Lib.hid (BX52.out.old h2)
        have RX56 := Lib.hid (RX53.out.next h2)
        clear h2
        have kx0_ : W2.cell? ⟨V1.heap.size, 0, none⟩ = some (.int .i64 x0) := BX55.out.cell 0
        have kx1_ : W2.cell? ⟨V1.heap.size, 1, none⟩ = some (.int .i64 x1) := BX55.out.cell 1
        have kx2_ : W2.cell? ⟨V1.heap.size, 2, none⟩ = some (.int .i64 x2) := BX55.out.cell 2
        have kx3_ : W2.cell? ⟨V1.heap.size, 3, none⟩ = some (.int .i64 x3) := BX55.out.cell 3
        have kx4_ : W2.cell? ⟨V1.heap.size, 4, none⟩ = some (.int .i64 x4) := BX55.out.cell 4
        go_wp2_with fail
        clear kx0_ kx1_ kx2_ kx3_ kx4_
        refine (K3.out W2 RX56.out).mono ?_
        rintro e W3 ⟨rfl, h3⟩
        have HBQ := Lib.hid (HQ2.out.trans (h3.mono HQ2.out.size))
        have HB57 := Lib.hid (HB54.out.trans (h3.mono HB54.out.size))
        have BX58 := Lib.hid (BX55.out.old h3)
        have RX59 := Lib.hid (RX56.out.next h3)
        go_wp2_with fail
        go_meet
        exact HBQ.out
    case rest =>
      have hbc := hcut
      clear BX49
      clear RX50
      have HB60 := Lib.hid (HB48.out.trans (hbc.mono HB48.out.size))
      clear HB48
      clear hbc
      clear F2 F3 F4 CA CV n1
      generalize wc = VB at *
      go_wp2_with fail
      refine (drawu18.releaseLevels A n c VB hn (Bytes_below H.out HB60.out)).mono ?_
      rintro e V61 ⟨v1, k2, ys, d2, rfl, ho1, hk2, h62⟩
      obtain ⟨A1, c1, rfl, hc1⟩ := own_cap ho1
      have HB63 := Lib.hid (HB60.out.trans (h62.mono HB60.out.size))
      clear HB60
      clear h62
      have RX64 := Lib.hid (RdZ.of_own ho1 (own_len5 ho1))
      clear ho1
      have CI := Lib.hid (fun W h1 => lvlf.releaseLevels ys d2 A1 k2 c1 W hc1 (by omega) h1)
      have CS := Lib.hid (fun W h1 => lvlv.releaseLevels ys d2 A1 k2 c1 W hc1 (by omega) h1)
      have F1 := Lib.hid (fun (h : rlB ys k2 d2 = true) => rl_again h)
      have F2 := Lib.hid (fun (h : rlB ys k2 d2 = true) => rl_valid h)
      have F3 := Lib.hid (fun (h : rlB ys k2 d2 = true) (i : Nat) (hi : i < rlN ys k2 d2) => (rl_left h hi).1)
      have hN3 := rlN_le ys k2 d2
      generalize rlV ys k2 d2 = L3 at *
      generalize rlN ys k2 d2 = N3 at *
      generalize rlB ys k2 d2 = O3 at *
      have n1 := bool_ne_self O3
      go_wp2_with fail
      refine (CI.out V61 RX64.out).mono ?_
      rintro e V65 ⟨vI, rfl, ho67, h66⟩
      obtain ⟨AI, cI, rfl, hcI⟩ := own_cap ho67
      have HB68 := Lib.hid (HB63.out.trans (h66.mono HB63.out.size))
      clear HB63
      have RX69 := Lib.hid (RX64.out.next h66)
      clear RX64
      clear h66
      have RX70 := Lib.hid (RdZ.of_own ho67 (own_len5 ho67))
      clear ho67
      go_wp2_with fail
      refine (CS.out V65 RX69.out).mono ?_
      rintro e V71 ⟨vS, rfl, ho73, h72⟩
      obtain ⟨AS, cS, rfl, hcS⟩ := own_cap ho73
      have HB74 := Lib.hid (HB68.out.trans (h72.mono HB68.out.size))
      clear HB68
      have RX75 := Lib.hid (RX69.out.next h72)
      clear RX69
      have RX76 := Lib.hid (RX70.out.next h72)
      clear RX70
      clear h72
      have RX77 := Lib.hid (RdZ.of_own ho73 (own_len5 ho73))
      clear ho73
      clear CI CS
      clear RX75
      go_wp2_with fail
      refine (vclr.rCleared L3 AI AS N3 cI cS V71 (by omega) RX76.out RX77.out).mono ?_
      rintro e wx ⟨rfl, j78, rfl⟩
      have h79 := aid.below_drewN (Below.refl V71.heap.size V71) j78
      generalize V71.drewN j78 = V80 at *
      have HB81 := Lib.hid (HB74.out.trans (h79.mono HB74.out.size))
      clear HB74
      have RX82 := Lib.hid (RX76.out.next h79)
      clear RX76
      have RX83 := Lib.hid (RX77.out.next h79)
      clear RX77
      clear h79
      clear RX83
      have CR := Lib.hid (fun W h1 => lvlf.releaseLevels L3 d2 AI N3 cI W hcI (by omega) h1)
      have CV := Lib.hid (fun W h1 => lvlc.isValidClearances L3 AI N3 cI W hcI (by omega) h1)
      go_upto_if 179 with fail
      go_cut [25, 26, 27] from 180 to 211 (fun p25 p26 p27 wz => Below V80.heap.size V80 wz)
      case first =>
        cases O3
        · go_wp2_with fail
          go_meet
          exact Below.refl _ _
        · obtain ⟨a1, a2, a3⟩ := F1.out (by trivial)
          have f2 := F2.out (by trivial)
          have K1 := CR.out V80 RX82.out
          have K3 := fun W h => CV.out W h
          rw [a1, a2, a3] at K1
          rw [f2] at K3
          have K1 := Lib.hid K1
          have K3 := Lib.hid K3
          have F3' := Lib.hid (fun i (hi : i < N3) => F3.out (by trivial) i hi)
          clear a1 a2 a3 f2 F1 F2 F3 CR CV
          have RD0 := Lib.hid RX82.out
          go_wp2_with fail
          refine K1.out.mono ?_
          rintro e W1 ⟨v9, rfl, ho9, h1⟩
          obtain ⟨A9, c9, rfl, -⟩ := own_cap ho9
          have R9 := Lib.hid (RdZ.of_own ho9 (own_len5 ho9))
          have HB1 := Lib.hid h1
          have RD1 := Lib.hid (RD0.out.next h1)
          clear ho9 h1
          have VC := Lib.hid (vclr.rCleared L3 A9 AI N3 c9 cI W1 (by omega) R9.out RD1.out)
          go_wp2_with fail
          refine VC.out.mono ?_
          rintro e wx ⟨rfl, jx, rfl⟩
          have HJ := Lib.hid (aid.below_drewN (Below.refl W1.heap.size W1) jx)
          generalize W1.drewN jx = W2 at *
          have HB2 := Lib.hid (HB1.out.trans (HJ.out.mono HB1.out.size))
          have RD2 := Lib.hid (RD1.out.next HJ.out)
          go_wp2_with fail
          refine (K3.out W2 RD2.out).mono ?_
          rintro e W3 ⟨rfl, h3⟩
          have HB3 := Lib.hid (HB2.out.trans (h3.mono HB2.out.size))
          have RD3 := Lib.hid (RD2.out.next h3)
          clear h3
          go_wp2_with fail
          go_loopw [27] (fun i wr => ∃ k : Nat, k ≤ N3 ∧ i = .int .i64 k ∧ Below W3.heap.size W3 wr) (fun i _ => N3 - (intOf i).toNat)
          case atStart => exact ⟨0, Nat.zero_le _, rfl, Below.refl _ _⟩
          case round =>
            obtain ⟨k, hk, rfl, hbw⟩ := hrel
            have HW := Lib.hid hbw
            clear hbw
            by_cases hlt : k < N3
            · obtain ⟨b1, o1, rfl, l1, p0, p1, p2, p3, p4⟩ := lvle.cellsE (RD3.out.next HW.out) hlt
              have hlt2 : (k : Int) < (N3 : Int) := by omega
              have f5 := F3'.out k hlt
              have g5 : decide (fld 5 L3 k 3 < d2) = false := decide_eq_false (by omega)
              clear f5 p0 p1 p2 p4
              generalize fld 5 L3 k 3 = f3 at *
              go_wp2_with fail
              go_roundw
              case rel => exact ⟨k + 1, by omega, by go_num, HW.out⟩
              case measure => simp [intOf]; omega
            · obtain rfl : k = N3 := by omega
              go_wp2_with fail
              go_meet
              exact HB3.out.trans (HW.out.mono HB3.out.size)
      case rest =>
        have hbc := hcut
        clear RX82
        have HB84 := Lib.hid (HB81.out.trans (hbc.mono HB81.out.size))
        clear HB81
        clear hbc
        clear F1 F2 F3 CR CV n1
        generalize wc = VC at *
        go_wp2_with fail
        refine (drawu18.clearedAt A n c VC hn (Bytes_below H.out HB84.out)).mono ?_
        rintro e V85 ⟨v1, k3, qs, a3, m3, rfl, ho1, hk3, h86⟩
        obtain ⟨A1, c1, rfl, hc1⟩ := own_cap ho1
        have HB87 := Lib.hid (HB84.out.trans (h86.mono HB84.out.size))
        clear HB84
        clear h86
        have RX88 := Lib.hid (RdZ.of_own ho1 (own_len5 ho1))
        clear ho1
        have CI := Lib.hid (fun W h1 => lvld.clearedAt qs a3 m3 A1 k3 c1 W hc1 (by omega) h1)
        have CS := Lib.hid (fun W h1 => lvlu.clearedAt qs a3 m3 A1 k3 c1 W hc1 (by omega) h1)
        generalize caL qs k3 a3 m3 = u1 at *
        generalize caU qs k3 a3 m3 = u2 at *
        generalize caB qs k3 a3 m3 = O4 at *
        have n1 := int_eq_self u1
        have n2 := int_eq_self u2
        have n3 := bool_eq_self O4
        go_wp2_with fail
        refine (CI.out V85 RX88.out).mono ?_
        rintro e V89 ⟨rfl, h90⟩
        have HB91 := Lib.hid (HB87.out.trans (h90.mono HB87.out.size))
        clear HB87
        have RX92 := Lib.hid (RX88.out.next h90)
        clear RX88
        clear h90
        go_wp2_with fail
        refine (CS.out V89 RX92.out).mono ?_
        rintro e V93 ⟨rfl, h94⟩
        have HB95 := Lib.hid (HB91.out.trans (h94.mono HB91.out.size))
        clear HB91
        have RX96 := Lib.hid (RX92.out.next h94)
        clear RX92
        clear h94
        clear CI CS
        go_wp2_with fail
        go_ret
        exact ⟨rfl, HB95.out⟩

theorem own : ownKnob Try.prog.godebug = none := by kernel_rfl
theorem laidOut : laidOutB Try.prog = true := by kernel_rfl

set_option maxRecDepth 100000 in
theorem lifted (os : Os) (started : os.Started) (H : Type) (enc : TypeId × Value → H) :
    ReturnsInHanded {} Try.checked os 3 .any (Rows.fnClearancesSpec.pre6 enc Try.prog Try.f3 Rows.fnClearancesRow.domain false) (Rows.fnClearancesSpec.post enc Try.prog Try.f3 false true false false) := by
  refine returnsInHanded_of_change (C := Try.checked) own started (by kernel_rfl) Try.func3
    (ChangeSpec.witness6 (enc := enc) (C := Try.checked) false ⟨#[], #[.slice none 0 0], []⟩ 8 (by kernel_rfl) (by kernel_rfl) (by kernel_rfl) (by kernel_rfl)) ?_
  intro W base args ds gs before hval0 hW hcnd _
  have hval : ∀ (j : Nat) t v, Try.f3.params[j]? = some t → args[j]? = some v → Value.okWide Try.prog W .any base t v := hval0
  have hW' := hW
  obtain ⟨p, q, hA0, hV, rfl, hfz, hnd⟩ := hW
  have hA : DataW.TrodAll enc Try.prog W 0 (fun _ => true) true Try.f3.params.toList args.toList ds p := hA0
  rw [Try.params3] at hA hval
  obtain ⟨v0, vs0, d0, ds0, p0, q0, hargs, rfl, rfl, h0, r0⟩ := trodAll_cons hA
  obtain ⟨rfl, rfl, rfl⟩ := trodAll_nil r0
  obtain rfl : args = #[v0] := by cases args; simp_all
  obtain ⟨rfl, rfl⟩ := trodVars_none hV
  obtain ⟨a0, len0, cap0, rfl⟩ := okWide_slice Try.underlying22 (hval 0 22 v0 rfl rfl)
  have k0 := h0
  have lt0 : ∀ x ∈ p0, x.block < W.heap.size := by obtain ⟨m, hm⟩ := k0; exact DataW.trod_lt m _ _ _ hm
  obtain ⟨z0, w0⟩ : ∃ zs, IsRow .u8 W a0 len0 cap0 zs := by
    obtain ⟨fuel, hf⟩ := h0
    rcases open_ints Try.underlying22 Try.underlying5 (by kernel_rfl) hf with ⟨hcs, _⟩ | ⟨x, l, c, zs, hcs, _, hl, hm, hz, _, hcell, hwz⟩
    · simp [Value.cells] at hcs
      obtain ⟨rfl, rfl, rfl⟩ := hcs
      exact ⟨[], .inl ⟨rfl, rfl, rfl, rfl⟩⟩
    · simp [Value.cells] at hcs
      obtain ⟨rfl, rfl, rfl⟩ := hcs
      exact ⟨zs, .inr ⟨_, rfl, hl, hm, by simpa using hz, hcell, hwz⟩⟩
  clear hA0 hval0
  refine (walk a0 len0 cap0 z0 W w0).mono fun e W' ⟨he, bel⟩ => ?_
  subst he
  exact ⟨_, rfl, _, _, _, [], _, [], hW', trodAll_mk1 (shut_bool Try.underlying4 _), (trodAll_cons_mk (Below.trod laidOut (by kernel_rfl) (of_decide_eq_true (by kernel_rfl)) k0 bel lt0) trodAll_mk0), rfl, bel.frame _, fun h => by cases h⟩

theorem over : Rows.fnClearancesRow.holds Try.pinned (OpenSpec.ofChange Rows.fnClearancesSpec) :=
  OpenClaim.holds_of_wide 3 Try.f3 rfl rfl rfl rfl rfl rfl rfl ⟨rfl, rfl, rfl, rfl, rfl⟩ rfl rfl rfl rfl rfl (by kernel_rfl) Try.func3 (by kernel_rfl)
    (of_decide_eq_true (by kernel_rfl)) (by unfold Func.isWrapper; first | (rw [if_pos (by decide +kernel)]; kernel_rfl) | (rw [if_neg (by decide +kernel)]; exact ⟨rfl, rfl⟩))
    (fun os started H enc _ => lifted os started H enc)

theorem proved : Rows.FnClearancesSaid :=
  over
#print axioms proved
end Go.Proofs.Ytglonedhoenkpaa.fnClearances
