/- For every receiver, message and minute the law FnExactReceive returns true: impl.Receive and spec.Receive return the same receiver with the frame that the message holds, or both a zero receiver and false; the argument is left as it was, the results share no memory. No condition. -/
import Derived.Test.YtelkflgmjfmadaaRows
import Derived.Test.YtelkflgmjfmadaaRcvS
import Derived.Test.YtelkflgmjfmadaaRcvP
import Derived.Test.YtelkflgmjfmadaaRcvD
import Derived.Test.YtelkflgmjfmadaaRcvO
import Derived.Test.YtelkflgmjfmadaaRcvC
import Derived.WalkKit
import Derived.ProofKit
import Derived.OpenShut
import Derived.ShutString
import Derived.ChangeOld
import Derived.Below
import Derived.Lib.SmallJoins
import Derived.Lib.QuietBelow
import Derived.Deep.RegionHeld3
import Derived.Deep.CutRange
namespace Go.Proofs.Ytelkflgmjfmadaa.fnExactReceive
open Go.ChangeShapes Go.WideShapes Go.ChangeAt Go.RowKit Go.Joins Go.Proofs.Ytelkflgmjfmadaa.ats Go.Proofs.Ytelkflgmjfmadaa.rcv Go.Proofs.Ytelkflgmjfmadaa.rcvm
open Go.Proofs.Ytelkflgmjfmadaa.lst Go.Proofs.Ytelkflgmjfmadaa.rcvd
open Go.ChangeMaps (open_string shut_string)
set_option linter.unusedVariables false

theorem bool_ne_self (b : Bool) : (b != b) = false := by simp
theorem int_ne_self (x : Int) : (x != x) = false := by simp
theorem at_kept {T : TypeId} {cs : Array Value} {w V V' : World} {b : Nat} {r : Option Nat} (h : ats.AtS T cs w V b) (hg : V.grownBy V' r) (hr : ∀ g, r = some g → g ≠ b ∧ w.heap.size ≤ g) : ats.AtS T cs w V' b :=
  ⟨h.1.grown hg h.1.size (fun g e => (hr g e).2), h.2.1, Nat.lt_of_lt_of_le h.2.2.1 hg.size, (hg.block b h.2.2.1 (fun e => (hr b e.symm).1 rfl)).trans h.2.2.2⟩

set_option maxRecDepth 100000 in
set_option maxHeartbeats 16000000 in
theorem walk (m : Int) (A : Option Addr) (c : Nat) (hs : List Hd) (a1 : ByteArray) (a2 : Int) (w : World) (hr : RdH w w.heap.size A hs) (hn : hs.length ≤ maxLen) (w1 : a1.size ≤ maxLen) (w2 : (Lit.int .i64 a2).wf = true) :
    Calls Try.prog 5 #[.agg #[.int .i64 m, .slice A hs.length c], .string a1, .int .i64 a2] w fun e w' => e = .returned (.bool true) ∧ Below w.heap.size w w' := by
  by_cases hsz : a1.size ≤ 1048576
  rotate_left
  · have gs : decide ((1048576 : Int) < (a1.size : Int)) = true := decide_eq_true (by omega)
    have B0 := Lib.hid (newS 65 #[.int .i64 m, .slice A hs.length c] w)
    generalize hs.length = n at *
    clear hr hn
    go_enter Try.func5, Try.ntmps5
    go_wp2_with fail
    go_ret
    exact ⟨rfl, B0.out.1⟩
  have gs : decide ((1048576 : Int) < (a1.size : Int)) = false := decide_eq_false (by omega)
  by_cases hl : hs.length ≤ 1048576
  · have HZ := Lib.hid (fun w => rcvc.szReceiver m A hs.length c w hn)
    simp only [if_pos hl] at HZ
    have d0 : decide ((1048576 : Int) - (hs.length : Int) < 0) = false := decide_eq_false (by omega)
    have TO := Lib.hid (fun (W : World) (hb : Below w.heap.size w W) => rcvc.toReceiver m hs A c W (by omega) (hr.next hb))
    have SP := Lib.hid (fun (W : World) (g : Nat) (h : RdH W W.heap.size (some ⟨g, 0, none⟩) hs) => rcvs.receive m hs a1 a2 g 0 hs.length W (by omega) (by unfold maxLen; omega) h)
    have IM := Lib.hid (fun (W : World) (g : Nat) (h : RdH W W.heap.size (some ⟨g, 0, none⟩) hs) => rcvp.receive m hs a1 a2 g 0 hs.length W (by omega) (Nat.le_refl _) h)
    have hZ : (rcL m hs a1 a2).length ≤ 1048576 := rcvs.rc_le6 m hs a1 a2
    generalize rcL m hs a1 a2 = Z at *
    generalize rcB m hs a1 a2 = O at *
    generalize rcM m hs a1 a2 = M at *
    have nb := bool_ne_self O
    clear hr w1 w2
    have B_0 := Lib.hid (newS 65 #[.int .i64 m, .slice A hs.length c] w)
    go_enter Try.func5, Try.ntmps5
    go_wp2_with fail
    refine (HZ.out _).mono ?_
    rintro e V1 ⟨rfl, h2⟩
    have B_3 := Lib.hid (B_0.out.old h2)
    clear B_0 h2
    have bc0 : V1.cell? ⟨w.heap.size, 0, none⟩ = some (.int .i64 m) := B_3.out.cell 0
    have bc1 : V1.cell? ⟨w.heap.size, 1, none⟩ = some (.slice A hs.length c) := B_3.out.cell 1
    go_wp2_with fail
    refine (TO.out V1 B_3.out.1).mono ?_
    rintro e V4 ⟨grs, rfl, o6, h5⟩
    have B_7 := Lib.hid (B_3.out.old h5)
    have rs_8 := Lib.hid (RdH.of_own o6 rfl)
    clear B_3 h5 o6
    clear bc0 bc1
    go_wp2_with fail
    refine (SP.out _ _ rs_8.out).mono ?_
    rintro e V9 ⟨v12, rfl, o11, h10⟩
    have B_13 := Lib.hid (B_7.out.old h10)
    have rs_14 := Lib.hid (rs_8.out.next h10)
    obtain ⟨Arw, crw, rfl⟩ := lst.own_sliceZ o11
    have rw_15 := Lib.hid (RdH.of_own o11 rfl)
    clear B_7 rs_8 h10 o11
    clear rs_14
    have S_16 := Lib.hid (AtS.next B_13.out 46 #[.int .i64 M, .slice Arw Z.length crw])
    have B_17 := Lib.hid (B_13.out.old ((Below.refl _ _).alloc (Nat.le_refl _) (.cells #[.int .i64 M, .slice Arw Z.length crw] 46)))
    have rw_18 := Lib.hid (rw_15.out.next ((Below.refl _ _).alloc (Nat.le_refl _) (.cells #[.int .i64 M, .slice Arw Z.length crw] 46)))
    clear B_13 rw_15
    have bc0 : (V9.alloc (.cells #[.int .i64 M, .slice Arw Z.length crw] 46)).cell? ⟨w.heap.size, 0, none⟩ = some (.int .i64 m) := B_17.out.cell 0
    have bc1 : (V9.alloc (.cells #[.int .i64 M, .slice Arw Z.length crw] 46)).cell? ⟨w.heap.size, 1, none⟩ = some (.slice A hs.length c) := B_17.out.cell 1
    go_upto_region 8 with fail
    clear bc0 bc1
    generalize V9.alloc (.cells #[.int .i64 M, .slice Arw Z.length crw] 46) = V19 at *
    generalize hqb20 : V9.heap.size = b20 at *
    clear hqb20
    have HB3_0 := Lib.hid (Below.refl V19.heap.size V19)
    have BLT := Lib.hid (show w.heap.size < V19.heap.size from B_17.out.2.2.1)
    have SLT := Lib.hid (show b20 < V19.heap.size from S_16.out.2.2.1)
    have RW := rw_18
    have bc0 : V19.cell? ⟨w.heap.size, 0, none⟩ = some (.int .i64 m) := B_17.out.cell 0
    have bc1 : V19.cell? ⟨w.heap.size, 1, none⟩ = some (.slice A hs.length c) := B_17.out.cell 1
    go_wp2_with fail
    refine (TO.out V19 B_17.out.1).mono ?_
    rintro e V21 ⟨grx, rfl, o23, h22⟩
    have B_24 := Lib.hid (B_17.out.old h22)
    have S_25 := Lib.hid (S_16.out.old h22)
    have HB3_26 := Lib.hid (HB3_0.out.trans (Below.mono h22 HB3_0.out.size))
    have rx_27 := Lib.hid (RdH.of_own o23 rfl)
    have Orx_28 := Lib.hid o23
    clear B_17 S_16 HB3_0 h22 o23
    clear bc0 bc1
    have X_29 := Lib.hid (AtS.next B_24.out 46 #[.int .i64 m, .slice (some ⟨grx, 0, none⟩) hs.length hs.length])
    have B_30 := Lib.hid (B_24.out.old ((Below.refl _ _).alloc (Nat.le_refl _) (.cells #[.int .i64 m, .slice (some ⟨grx, 0, none⟩) hs.length hs.length] 46)))
    have S_31 := Lib.hid (S_25.out.old ((Below.refl _ _).alloc (Nat.le_refl _) (.cells #[.int .i64 m, .slice (some ⟨grx, 0, none⟩) hs.length hs.length] 46)))
    have rx_32 := Lib.hid (rx_27.out.next ((Below.refl _ _).alloc (Nat.le_refl _) (.cells #[.int .i64 m, .slice (some ⟨grx, 0, none⟩) hs.length hs.length] 46)))
    have Orx_33 := Lib.hid (own_.own_below Orx_28.out ((Below.refl _ _).alloc (Nat.le_refl _) (.cells #[.int .i64 m, .slice (some ⟨grx, 0, none⟩) hs.length hs.length] 46)))
    have HB3_34 := Lib.hid (HB3_26.out.trans (Below.mono ((Below.refl _ _).alloc (Nat.le_refl _) (.cells #[.int .i64 m, .slice (some ⟨grx, 0, none⟩) hs.length hs.length] 46)) HB3_26.out.size))
    clear B_24 S_25 rx_27 Orx_28 HB3_26
    go_upto_region 9 with fail
    generalize V21.alloc (.cells #[.int .i64 m, .slice (some ⟨grx, 0, none⟩) hs.length hs.length] 46) = V35 at *
    generalize hqb36 : V21.heap.size = b36 at *
    clear hqb36
    have GL := Lib.hid (show grx < V35.heap.size from own_row_lt Orx_33.out grx rfl)
    have GE := Lib.hid (show V19.heap.size ≤ grx from own_.row_ge Orx_33.out grx rfl)
    have L35 := Lib.hid (show V19.heap.size ≤ V35.heap.size from HB3_34.out.size)
    have HB5_0 := Lib.hid (Below.refl V35.heap.size V35)
    have xc0 : V35.cell? ⟨b36, 0, none⟩ = some (.int .i64 m) := X_29.out.cell 0
    have xc1 : V35.cell? ⟨b36, 1, none⟩ = some (.slice (some ⟨grx, 0, none⟩) hs.length hs.length) := X_29.out.cell 1
    go_wp2_with fail
    refine (IM.out _ _ rx_32.out).mono ?_
    rintro e V37 ⟨v40, rfl, o39, h38⟩
    have B_41 := Lib.hid (B_30.out.old h38)
    have S_42 := Lib.hid (S_31.out.old h38)
    have X_43 := Lib.hid (X_29.out.old h38)
    have rx_44 := Lib.hid (rx_32.out.next h38)
    have Orx_45 := Lib.hid (own_.own_below Orx_33.out h38)
    have HB3_46 := Lib.hid (HB3_34.out.trans (Below.mono h38 HB3_34.out.size))
    have HB5_47 := Lib.hid (HB5_0.out.trans (Below.mono h38 HB5_0.out.size))
    obtain ⟨Arg, crg, rfl⟩ := lst.own_sliceZ o39
    have rg_48 := Lib.hid (RdH.of_own o39 rfl)
    have Org_49 := Lib.hid o39
    clear B_30 S_31 X_29 rx_32 Orx_33 HB3_34 HB5_0 h38 o39
    clear xc0 xc1
    have GB := Lib.hid (own_row_lt Org_49.out)
    have GBL := Lib.hid (Nat.lt_of_lt_of_le GL.out HB5_47.out.size)
    have G5 := Lib.hid HB5_47.out.size
    have G_50 := Lib.hid (AtS.next B_41.out 46 #[.int .i64 M, .slice Arg Z.length crg])
    have B_51 := Lib.hid (B_41.out.old ((Below.refl _ _).alloc (Nat.le_refl _) (.cells #[.int .i64 M, .slice Arg Z.length crg] 46)))
    have S_52 := Lib.hid (S_42.out.old ((Below.refl _ _).alloc (Nat.le_refl _) (.cells #[.int .i64 M, .slice Arg Z.length crg] 46)))
    have X_53 := Lib.hid (X_43.out.old ((Below.refl _ _).alloc (Nat.le_refl _) (.cells #[.int .i64 M, .slice Arg Z.length crg] 46)))
    have rx_54 := Lib.hid (rx_44.out.next ((Below.refl _ _).alloc (Nat.le_refl _) (.cells #[.int .i64 M, .slice Arg Z.length crg] 46)))
    have Orx_55 := Lib.hid (own_.own_below Orx_45.out ((Below.refl _ _).alloc (Nat.le_refl _) (.cells #[.int .i64 M, .slice Arg Z.length crg] 46)))
    have Org_56 := Lib.hid (own_.own_below Org_49.out ((Below.refl _ _).alloc (Nat.le_refl _) (.cells #[.int .i64 M, .slice Arg Z.length crg] 46)))
    have HB3_57 := Lib.hid (HB3_46.out.trans (Below.mono ((Below.refl _ _).alloc (Nat.le_refl _) (.cells #[.int .i64 M, .slice Arg Z.length crg] 46)) HB3_46.out.size))
    have HB5_58 := Lib.hid (HB5_47.out.trans (Below.mono ((Below.refl _ _).alloc (Nat.le_refl _) (.cells #[.int .i64 M, .slice Arg Z.length crg] 46)) HB5_47.out.size))
    clear B_41 S_42 X_43 rx_44 Orx_45 Org_49 HB3_46 HB5_47
    go_upto_region 10 with fail
    generalize V37.alloc (.cells #[.int .i64 M, .slice Arg Z.length crg] 46) = V59 at *
    generalize hqb60 : V37.heap.size = b60 at *
    clear hqb60
    have gc0 : V59.cell? ⟨b60, 0, none⟩ = some (.int .i64 M) := G_50.out.cell 0
    have gc1 : V59.cell? ⟨b60, 1, none⟩ = some (.slice Arg Z.length crg) := G_50.out.cell 1
    have sc0 : V59.cell? ⟨b20, 0, none⟩ = some (.int .i64 M) := S_52.out.cell 0
    have sc1 : V59.cell? ⟨b20, 1, none⟩ = some (.slice Arw Z.length crw) := S_52.out.cell 1
    have HE61 := Lib.hid (rcvc.eqReceiver M Z Arg Arw crg crw V59 (by omega) (RdH.of_own Org_56.out rfl) (RW.out.next HB3_57.out))
    go_wp2_with fail
    refine (HE61.out).mono ?_
    rintro e V62 ⟨rfl, h63⟩
    have B_64 := Lib.hid (B_51.out.old h63)
    have S_65 := Lib.hid (S_52.out.old h63)
    have X_66 := Lib.hid (X_53.out.old h63)
    have G_67 := Lib.hid (G_50.out.old h63)
    have rx_68 := Lib.hid (rx_54.out.next h63)
    have Orx_69 := Lib.hid (own_.own_below Orx_55.out h63)
    have Org_70 := Lib.hid (own_.own_below Org_56.out h63)
    have HB3_71 := Lib.hid (HB3_57.out.trans (Below.mono h63 HB3_57.out.size))
    have HB5_72 := Lib.hid (HB5_58.out.trans (Below.mono h63 HB5_58.out.size))
    clear B_51 S_52 X_53 G_50 rx_54 Orx_55 Org_56 HB3_57 HB5_58 h63 HE61 gc0 gc1 sc0 sc1
    go_upto_region 12 with fail
    have CS := Lib.hid (show ∀ WZ : World, Below V62.heap.size V62 WZ → WZ.cell? ⟨w.heap.size, 0, none⟩ = some (.int .i64 m) ∧ WZ.cell? ⟨w.heap.size, 1, none⟩ = some (.slice A hs.length c) ∧ WZ.cell? ⟨b36, 0, none⟩ = some (.int .i64 m) ∧ WZ.cell? ⟨b36, 1, none⟩ = some (.slice (some ⟨grx, 0, none⟩) hs.length hs.length) from fun WZ hz => And.intro (posx.at_cell (B_64.out.old hz) 0 (.int .i64 m) rfl) (And.intro (posx.at_cell (B_64.out.old hz) 1 (.slice A hs.length c) rfl) (And.intro (posx.at_cell (X_66.out.old hz) 0 (.int .i64 m) rfl) (posx.at_cell (X_66.out.old hz) 1 (.slice (some ⟨grx, 0, none⟩) hs.length hs.length) rfl))))
    have TQ := Lib.hid (fun (WZ : World) (hz : Below V62.heap.size V62 WZ) => TO.out WZ (B_64.out.old hz).1)
    have EQ := Lib.hid (fun (WZ : World) (g : Nat) (hz : Below V62.heap.size V62 WZ) (h : RdH WZ WZ.heap.size (some ⟨g, 0, none⟩) hs) => rcvc.eqReceiver m hs (some ⟨grx, 0, none⟩) (some ⟨g, 0, none⟩) hs.length hs.length WZ (by omega) (rx_68.out.next hz) h)
    go_cut [56] from 52 to 56 (fun p wz => p = .bool false ∧ Below V62.heap.size V62 wz)
    case first =>
      go_region_held3 (fun w' => w'.cell? ⟨w.heap.size, 0, none⟩ = some (.int .i64 m) ∧ w'.cell? ⟨w.heap.size, 1, none⟩ = some (.slice A hs.length c) ∧ w'.cell? ⟨b36, 0, none⟩ = some (.int .i64 m) ∧ w'.cell? ⟨b36, 1, none⟩ = some (.slice (some ⟨grx, 0, none⟩) hs.length hs.length)) (first
        | exact CS.out _ (Below.refl V62.heap.size V62).drew
        | exact CS.out _ (by assumption)
        | go_keep) (first
        | (go_at_call 35; (with_reducible refine (TQ.out _ (by first | exact (Below.refl V62.heap.size V62).drew | assumption)).mono ?_); rintro e w' ⟨g, rfl, ho, hb⟩
           have hbl := posx.bl_next (V := V62) (by first | exact (Below.refl V62.heap.size V62).drew | assumption) hb
           have hrd := RdH.of_own ho rfl
           clear ho hb)
        | (go_at_call 36; (with_reducible refine (EQ.out _ _ (by assumption) (by assumption)).mono ?_); rintro e w' ⟨rfl, hb⟩
           have hbl2 := posx.bl_next (V := V62) (by assumption) hb
           clear hb))
      all_goals (go_wp2_with fail; go_meet; exact ⟨rfl, by assumption⟩)
    case rest =>
      obtain ⟨rfl, hg⟩ := hcut
      have B_73 := Lib.hid (B_64.out.old hg)
      have S_74 := Lib.hid (S_65.out.old hg)
      have X_75 := Lib.hid (X_66.out.old hg)
      have G_76 := Lib.hid (G_67.out.old hg)
      have rx_77 := Lib.hid (rx_68.out.next hg)
      have Orx_78 := Lib.hid (own_.own_below Orx_69.out hg)
      have Org_79 := Lib.hid (own_.own_below Org_70.out hg)
      have HB3_80 := Lib.hid (HB3_71.out.trans (Below.mono hg HB3_71.out.size))
      have HB5_81 := Lib.hid (HB5_72.out.trans (Below.mono hg HB5_72.out.size))
      clear B_64 S_65 X_66 G_67 rx_68 Orx_69 Org_70 HB3_71 HB5_72 CS TQ EQ hg
      generalize wc = V82 at *
      have xc0 : V82.cell? ⟨b36, 0, none⟩ = some (.int .i64 m) := X_75.out.cell 0
      have xc1 : V82.cell? ⟨b36, 1, none⟩ = some (.slice (some ⟨grx, 0, none⟩) hs.length hs.length) := X_75.out.cell 1
      go_wp2_with fail
      refine (rcvd.markR V19.heap.size m (some ⟨grx, 0, none⟩) 1 hs.length hs V82 HB3_80.out.size (by omega) Orx_78.out).mono ?_
      rintro e V83 ⟨rfl, hb9, hg9, -⟩
      have B_84 := Lib.hid (at_low B_73.out hb9 BLT.out (Nat.le_of_lt BLT.out))
      have S_85 := Lib.hid (at_low S_74.out hb9 SLT.out (Nat.le_of_lt BLT.out))
      have G_86 := Lib.hid (at_kept G_76.out hg9 (fun g e => by simp [Value.ownBlock] at e; subst e; have := BLT.out; have := GE.out; have := GL.out; have := GBL.out; omega))
      have Org_87 := Lib.hid (own_kept Org_79.out hg9 (fun g e => by simp [Value.ownBlock] at e; subst e; exact GL.out))
      have HB3_88 := Lib.hid (HB3_80.out.trans hb9)
      clear B_73 X_75 S_74 G_76 Org_79 Orx_78 rx_77 HB3_80 HB5_81 hb9 hg9 xc0 xc1
      have K8 : decide (((1 + hs.length * 10 : Nat) : Int) < 0) = false := decide_eq_false (by omega)
      have gc0 : V83.cell? ⟨b60, 0, none⟩ = some (.int .i64 M) := G_86.out.cell 0
      have gc1 : V83.cell? ⟨b60, 1, none⟩ = some (.slice Arg Z.length crg) := G_86.out.cell 1
      have sc0 : V83.cell? ⟨b20, 0, none⟩ = some (.int .i64 M) := S_85.out.cell 0
      have sc1 : V83.cell? ⟨b20, 1, none⟩ = some (.slice Arw Z.length crw) := S_85.out.cell 1
      have HE89 := Lib.hid (rcvc.eqReceiver M Z Arg Arw crg crw V83 (by omega) (RdH.of_own Org_87.out rfl) (RW.out.next HB3_88.out))
      go_wp2_with fail
      refine (HE89.out).mono ?_
      rintro e V90 ⟨rfl, h91⟩
      have B_92 := Lib.hid (B_84.out.old h91)
      have S_93 := Lib.hid (S_85.out.old h91)
      have G_94 := Lib.hid (G_86.out.old h91)
      have Org_95 := Lib.hid (own_.own_below Org_87.out h91)
      have HB3_96 := Lib.hid (HB3_88.out.trans (Below.mono h91 HB3_88.out.size))
      clear B_84 S_85 G_86 Org_87 HB3_88 h91 HE89 gc0 gc1 sc0 sc1
      have gc0 : V90.cell? ⟨b60, 0, none⟩ = some (.int .i64 M) := G_94.out.cell 0
      have gc1 : V90.cell? ⟨b60, 1, none⟩ = some (.slice Arg Z.length crg) := G_94.out.cell 1
      go_wp2_with fail
      refine (rcvd.markR V35.heap.size M Arg 1 crg Z V90 (Nat.le_of_lt (Nat.lt_of_le_of_lt G5.out G_94.out.2.2.1)) (by omega) Org_95.out).mono ?_
      rintro e V97 ⟨rfl, hb10, hg10, ho10⟩
      have RM := Lib.hid (RdH.of_own ho10 (rcvd.marksH_length 1 Z.length).symm)
      have B_98 := Lib.hid (at_low B_92.out hb10 (Nat.lt_of_lt_of_le BLT.out L35.out) (Nat.le_trans (Nat.le_of_lt BLT.out) L35.out))
      have S_99 := Lib.hid (at_low S_93.out hb10 (Nat.lt_of_lt_of_le SLT.out L35.out) (Nat.le_trans (Nat.le_of_lt BLT.out) L35.out))
      have G_100 := Lib.hid (at_kept G_94.out hg10 (fun g e => by have h1 := GB.out g e; have h2 := own_.row_ge Org_95.out g e; have := BLT.out; have := L35.out; omega))
      have HB3_101 := Lib.hid (HB3_96.out.trans (hb10.mono L35.out))
      clear B_92 S_93 G_94 Org_95 HB3_96 hb10 hg10 ho10 gc0 gc1
      have gc0 : V97.cell? ⟨b60, 0, none⟩ = some (.int .i64 M) := G_100.out.cell 0
      have gc1 : V97.cell? ⟨b60, 1, none⟩ = some (.slice Arg Z.length crg) := G_100.out.cell 1
      go_wp2_with fail
      refine (rcvd.heldR M Arg 1 Z.length crg V97 (by omega) RM.out).mono ?_
      rintro e V102 ⟨rfl, h103⟩
      have B_104 := Lib.hid (B_98.out.old h103)
      have S_105 := Lib.hid (S_99.out.old h103)
      have G_106 := Lib.hid (G_100.out.old h103)
      have RM_107 := Lib.hid (RM.out.next h103)
      have HB3_108 := Lib.hid (HB3_101.out.trans (Below.mono h103 HB3_101.out.size))
      clear B_98 S_99 G_100 RM HB3_101 h103 gc0 gc1
      have K11 : decide (((1 + Z.length * 10 : Nat) : Int) < 0) = false := decide_eq_false (by omega)
      have K12 : (((1 + Z.length * 10 : Nat) : Int) != ((1 + Z.length * 10 : Nat) : Int)) = false := int_ne_self _
      have bc0 : V102.cell? ⟨w.heap.size, 0, none⟩ = some (.int .i64 m) := B_104.out.cell 0
      have bc1 : V102.cell? ⟨w.heap.size, 1, none⟩ = some (.slice A hs.length c) := B_104.out.cell 1
      go_wp2_with fail
      refine (TO.out V102 B_104.out.1).mono ?_
      rintro e V109 ⟨gry, rfl, o111, h110⟩
      have B_112 := Lib.hid (B_104.out.old h110)
      have S_113 := Lib.hid (S_105.out.old h110)
      have G_114 := Lib.hid (G_106.out.old h110)
      have RM_115 := Lib.hid (RM_107.out.next h110)
      have HB3_116 := Lib.hid (HB3_108.out.trans (Below.mono h110 HB3_108.out.size))
      have ry_117 := Lib.hid (RdH.of_own o111 rfl)
      clear B_104 S_105 G_106 RM_107 HB3_108 h110 o111
      clear bc0 bc1
      go_wp2_with fail
      refine (IM.out _ _ ry_117.out).mono ?_
      rintro e V118 ⟨v121, rfl, o120, h119⟩
      have B_122 := Lib.hid (B_112.out.old h119)
      have S_123 := Lib.hid (S_113.out.old h119)
      have G_124 := Lib.hid (G_114.out.old h119)
      have RM_125 := Lib.hid (RM_115.out.next h119)
      have ry_126 := Lib.hid (ry_117.out.next h119)
      have HB3_127 := Lib.hid (HB3_116.out.trans (Below.mono h119 HB3_116.out.size))
      obtain ⟨Arh, crh, rfl⟩ := lst.own_sliceZ o120
      have rh_128 := Lib.hid (RdH.of_own o120 rfl)
      clear B_112 S_113 G_114 RM_115 ry_117 HB3_116 h119 o120
      clear ry_126
      have H_129 := Lib.hid (AtS.next B_122.out 46 #[.int .i64 M, .slice Arh Z.length crh])
      have B_130 := Lib.hid (B_122.out.old ((Below.refl _ _).alloc (Nat.le_refl _) (.cells #[.int .i64 M, .slice Arh Z.length crh] 46)))
      have S_131 := Lib.hid (S_123.out.old ((Below.refl _ _).alloc (Nat.le_refl _) (.cells #[.int .i64 M, .slice Arh Z.length crh] 46)))
      have G_132 := Lib.hid (G_124.out.old ((Below.refl _ _).alloc (Nat.le_refl _) (.cells #[.int .i64 M, .slice Arh Z.length crh] 46)))
      have RM_133 := Lib.hid (RM_125.out.next ((Below.refl _ _).alloc (Nat.le_refl _) (.cells #[.int .i64 M, .slice Arh Z.length crh] 46)))
      have rh_134 := Lib.hid (rh_128.out.next ((Below.refl _ _).alloc (Nat.le_refl _) (.cells #[.int .i64 M, .slice Arh Z.length crh] 46)))
      have HB3_135 := Lib.hid (HB3_127.out.trans (Below.mono ((Below.refl _ _).alloc (Nat.le_refl _) (.cells #[.int .i64 M, .slice Arh Z.length crh] 46)) HB3_127.out.size))
      clear B_122 S_123 G_124 RM_125 rh_128 HB3_127
      go_upto_region 27 with fail
      generalize V118.alloc (.cells #[.int .i64 M, .slice Arh Z.length crh] 46) = V136 at *
      generalize hqb137 : V118.heap.size = b137 at *
      clear hqb137
      have hc0 : V136.cell? ⟨b137, 0, none⟩ = some (.int .i64 M) := H_129.out.cell 0
      have hc1 : V136.cell? ⟨b137, 1, none⟩ = some (.slice Arh Z.length crh) := H_129.out.cell 1
      have sc0 : V136.cell? ⟨b20, 0, none⟩ = some (.int .i64 M) := S_131.out.cell 0
      have sc1 : V136.cell? ⟨b20, 1, none⟩ = some (.slice Arw Z.length crw) := S_131.out.cell 1
      have HE138 := Lib.hid (rcvc.eqReceiver M Z Arh Arw crh crw V136 (by omega) (rh_134.out) (RW.out.next HB3_135.out))
      go_wp2_with fail
      refine (HE138.out).mono ?_
      rintro e V139 ⟨rfl, h140⟩
      have B_141 := Lib.hid (B_130.out.old h140)
      have S_142 := Lib.hid (S_131.out.old h140)
      have G_143 := Lib.hid (G_132.out.old h140)
      have H_144 := Lib.hid (H_129.out.old h140)
      have RM_145 := Lib.hid (RM_133.out.next h140)
      have rh_146 := Lib.hid (rh_134.out.next h140)
      have HB3_147 := Lib.hid (HB3_135.out.trans (Below.mono h140 HB3_135.out.size))
      clear B_130 S_131 G_132 H_129 RM_133 rh_134 HB3_135 h140 HE138 hc0 hc1 sc0 sc1
      have gc0 : V139.cell? ⟨b60, 0, none⟩ = some (.int .i64 M) := G_143.out.cell 0
      have gc1 : V139.cell? ⟨b60, 1, none⟩ = some (.slice Arg Z.length crg) := G_143.out.cell 1
      go_wp2_with fail
      refine (rcvd.heldR M Arg 1 Z.length crg V139 (by omega) RM_145.out).mono ?_
      rintro e V148 ⟨rfl, h149⟩
      have B_150 := Lib.hid (B_141.out.old h149)
      have S_151 := Lib.hid (S_142.out.old h149)
      have G_152 := Lib.hid (G_143.out.old h149)
      have H_153 := Lib.hid (H_144.out.old h149)
      have RM_154 := Lib.hid (RM_145.out.next h149)
      have rh_155 := Lib.hid (rh_146.out.next h149)
      have HB3_156 := Lib.hid (HB3_147.out.trans (Below.mono h149 HB3_147.out.size))
      clear B_141 S_142 G_143 H_144 RM_145 rh_146 HB3_147 h149 gc0 gc1
      go_wp2_with fail
      go_ret
      exact ⟨rfl, B_150.out.1⟩
  · have HZ := Lib.hid (fun w => rcvc.szReceiver m A hs.length c w hn)
    simp only [if_neg hl] at HZ
    have B0 := Lib.hid (newS 65 #[.int .i64 m, .slice A hs.length c] w)
    clear hr hn hl
    generalize hs.length = n at *
    go_enter Try.func5, Try.ntmps5
    go_wp2_with fail
    refine (HZ.out _).mono ?_
    rintro e w2 ⟨rfl, hb⟩
    have hb2 := (B0.out.old hb).1
    go_wp2_with fail
    go_ret
    exact ⟨rfl, hb2⟩


theorem own : ownKnob Try.prog.godebug = none := by kernel_rfl
theorem laidOut : laidOutB Try.prog = true := by kernel_rfl

set_option maxRecDepth 100000 in
theorem lifted (os : Os) (started : os.Started) (H : Type) (enc : TypeId × Value → H) :
    ReturnsInHanded {} Try.checked os 5 .any (Rows.fnExactReceiveSpec.pre6 enc Try.prog Try.f5 Rows.fnExactReceiveRow.domain false) (Rows.fnExactReceiveSpec.post enc Try.prog Try.f5 false true false false) := by
  refine returnsInHanded_of_change (C := Try.checked) own started (by kernel_rfl) Try.func5
    (ChangeSpec.witness6 (enc := enc) (C := Try.checked) false ⟨#[], #[.agg #[.int .i64 0, .slice none 0 0], .string ByteArray.empty, .int .i64 0], []⟩ 8 (by kernel_rfl) (by kernel_rfl) (by kernel_rfl) (by kernel_rfl)) ?_
  intro W base args ds gs before hval0 hW hcnd _
  have hval : ∀ (j : Nat) t v, Try.f5.params[j]? = some t → args[j]? = some v → Value.okWide Try.prog W .any base t v := hval0
  have hW' := hW
  obtain ⟨p, q, hA0, hV, rfl, hfz, hnd⟩ := hW
  have hA : DataW.TrodAll enc Try.prog W 0 (fun _ => true) true Try.f5.params.toList args.toList ds p := hA0
  rw [Try.params5] at hA hval
  obtain ⟨v0, vs0, d0, ds0, p0, q0, hargs, rfl, rfl, h0, r0⟩ := trodAll_cons hA
  obtain ⟨v1, vs1, d1, ds1, p1, q1, rfl, rfl, rfl, h1, r1⟩ := trodAll_cons r0
  obtain ⟨v2, vs2, d2, ds2, p2, q2, rfl, rfl, rfl, h2, r2⟩ := trodAll_cons r1
  obtain ⟨rfl, rfl, rfl⟩ := trodAll_nil r2
  obtain rfl : args = #[v0, v1, v2] := by cases args; simp_all
  obtain ⟨rfl, rfl⟩ := trodVars_none hV
  have k0 := h0
  have lt0 : ∀ x ∈ p0, x.block < W.heap.size := by obtain ⟨m, hm⟩ := k0; exact DataW.trod_lt m _ _ _ hm
  obtain ⟨m0, a0, c0, z0, rfl, w0, n0⟩ := rcvo.open_receiver (hval 0 65 v0 rfl rfl) h0
  obtain ⟨a1, rfl, rfl, rfl, w1⟩ := open_string Try.underlying9 (hval 1 9 v1 rfl rfl) h1
  obtain ⟨a2, rfl, rfl, rfl, w2⟩ := open_int Try.underlying3 (hval 2 3 v2 rfl rfl) h2
  clear hA0 hval0
  refine (walk m0 a0 c0 z0 a1 a2 W w0 n0 w1 w2).mono fun e W' ⟨he, bel⟩ => ?_
  subst he
  exact ⟨_, rfl, _, _, _, [], _, [], hW', trodAll_mk1 (shut_bool Try.underlying4 _), (trodAll_cons_mk (Below.trod laidOut (by kernel_rfl) (of_decide_eq_true (by kernel_rfl)) k0 bel lt0) (trodAll_cons_mk (shut_string Try.underlying9 w1) (trodAll_cons_mk (shut_int Try.underlying3 w2) trodAll_mk0))), rfl, bel.frame _, fun h => by cases h⟩

theorem over : Rows.fnExactReceiveRow.holds Try.pinned (OpenSpec.ofChange Rows.fnExactReceiveSpec) :=
  OpenClaim.holds_of_wide 5 Try.f5 rfl rfl rfl rfl rfl rfl rfl ⟨rfl, rfl, rfl, rfl, rfl⟩ rfl rfl rfl rfl rfl (by kernel_rfl) Try.func5 (by kernel_rfl)
    (of_decide_eq_true (by kernel_rfl)) (by unfold Func.isWrapper; first | (rw [if_pos (by decide +kernel)]; kernel_rfl) | (rw [if_neg (by decide +kernel)]; exact ⟨rfl, rfl⟩))
    (fun os started H enc _ => lifted os started H enc)

theorem proved : Rows.FnExactReceiveSaid :=
  over
#print axioms proved
end Go.Proofs.Ytelkflgmjfmadaa.fnExactReceive
