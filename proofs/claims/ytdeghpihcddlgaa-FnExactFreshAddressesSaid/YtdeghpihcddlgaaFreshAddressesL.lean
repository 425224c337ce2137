/- For every receiver the law FnExactFreshAddresses returns true: impl.FreshAddresses and spec.FreshAddresses return the same addresses in the same order, or both an empty slice and false; the argument is left as it was, the results share no memory. No condition. -/
import Derived.Test.YtdeghpihcddlgaaRows
import Derived.Test.YtdeghpihcddlgaaRcvI
import Derived.Test.YtdeghpihcddlgaaRcvD
import Derived.Test.YtdeghpihcddlgaaInts
import Derived.Test.YtdeghpihcddlgaaRcvO
import Derived.Test.YtdeghpihcddlgaaRcvC
import Derived.WalkKit
import Derived.ProofKit
import Derived.OpenShut
import Derived.ShutString
import Derived.ChangeOld
import Derived.Below
import Derived.Lib.SmallJoins
import Derived.Lib.QuietBelow
import Derived.Deep.RegionHeld3
import Derived.Deep.CutRange
namespace Go.Proofs.Ytdeghpihcddlgaa.fnExactFreshAddresses
open Go.ChangeShapes Go.WideShapes Go.ChangeAt Go.RowKit Go.Joins Go.Proofs.Ytdeghpihcddlgaa.ats Go.Proofs.Ytdeghpihcddlgaa.rcv Go.Proofs.Ytdeghpihcddlgaa.rcvm
open Go.Proofs.Ytdeghpihcddlgaa.lst Go.Proofs.Ytdeghpihcddlgaa.ints
open Go.ChangeMaps (open_string shut_string)
set_option linter.unusedVariables false

theorem bool_ne_self (b : Bool) : (b != b) = false := by simp
theorem int_ne_self (x : Int) : (x != x) = false := by simp
theorem at_kept {T : TypeId} {cs : Array Value} {w V V' : World} {b : Nat} {r : Option Nat} (h : ats.AtS T cs w V b) (hg : V.grownBy V' r) (hr : ∀ g, r = some g → g ≠ b ∧ w.heap.size ≤ g) : ats.AtS T cs w V' b :=
  ⟨h.1.grown hg h.1.size (fun g e => (hr g e).2), h.2.1, Nat.lt_of_lt_of_le h.2.2.1 hg.size, (hg.block b h.2.2.1 (fun e => (hr b e.symm).1 rfl)).trans h.2.2.2⟩
theorem own_marks {w : World} {B e n c : Nat} {A : Option Addr} {k : Nat} (h : w.ownsRow B e 1 (.slice A n c) n (cellsI (marksI k n))) : RdI w w.heap.size A n (marksI k n) :=
  RdI.of_own (xs := marksI k n) (by rw [marksI_length]; exact h) (marksI_length k n).symm

set_option maxRecDepth 100000 in
set_option maxHeartbeats 16000000 in
theorem walk (m : Int) (A : Option Addr) (c : Nat) (hs : List Hd) (w : World) (hr : RdH w w.heap.size A hs) (hn : hs.length ≤ maxLen) :
    Calls Try.prog 10 #[.agg #[.int .i64 m, .slice A hs.length c]] w fun e w' => e = .returned (.bool true) ∧ Below w.heap.size w w' := by
  by_cases hl : hs.length ≤ 1048576
  · have HZ := Lib.hid (fun w => rcvc.szReceiver m A hs.length c w hn)
    simp only [if_pos hl] at HZ
    have d0 : decide ((1048576 : Int) - (hs.length : Int) < 0) = false := decide_eq_false (by omega)
    have TO := Lib.hid (fun (W : World) (hb : Below w.heap.size w W) => rcvc.toReceiver m hs A c W (by omega) (hr.next hb))
    have SP := Lib.hid (fun (W : World) (g : Nat) (h : RdH W W.heap.size (some ⟨g, 0, none⟩) hs) => rcvi.specFresh m hs (some ⟨g, 0, none⟩) hs.length W (by omega) h)
    have IM := Lib.hid (fun (W : World) (g : Nat) (h : RdH W W.heap.size (some ⟨g, 0, none⟩) hs) => rcvi.implFresh m hs (some ⟨g, 0, none⟩) hs.length W (by omega) h)
    have hZ : (faV m hs).length ≤ 1048576 := by unfold faV; split; exact Nat.le_trans (fa_length m hs) hl; exact Nat.zero_le _
    generalize faV m hs = Z at *
    generalize vB m hs = O at *
    have nb := bool_ne_self O
    clear hr
    have B_0 := Lib.hid (newS 65 #[.int .i64 m, .slice A hs.length c] w)
    go_enter Try.func10, Try.ntmps10
    go_wp2_with fail
    refine (HZ.out _).mono ?_
    rintro e V1 ⟨rfl, h2⟩
    have B_3 := Lib.hid (B_0.out.old h2)
    clear B_0 h2
    have bc0 : V1.cell? ⟨w.heap.size, 0, none⟩ = some (.int .i64 m) := B_3.out.cell 0
    have bc1 : V1.cell? ⟨w.heap.size, 1, none⟩ = some (.slice A hs.length c) := B_3.out.cell 1
    go_wp2_with fail
    refine (TO.out V1 B_3.out.1).mono ?_
    rintro e V4 ⟨grs, rfl, o6, h5⟩
    have B_7 := Lib.hid (B_3.out.old h5)
    have rs_8 := Lib.hid (RdH.of_own o6 rfl)
    clear B_3 h5 o6
    clear bc0 bc1
    go_wp2_with fail
    refine (SP.out _ _ rs_8.out).mono ?_
    rintro e V9 ⟨v12, rfl, o11, h10⟩
    have B_13 := Lib.hid (B_7.out.old h10)
    have rs_14 := Lib.hid (rs_8.out.next h10)
    obtain ⟨Arw, crw, rfl⟩ := own_slice o11
    have rw_15 := Lib.hid (RdI.of_own o11 rfl)
    clear B_7 rs_8 h10 o11
    clear rs_14
    have HB3_0 := Lib.hid (Below.refl V9.heap.size V9)
    have BLT := Lib.hid (show w.heap.size < V9.heap.size from B_13.out.2.2.1)
    have RW := rw_15
    have bc0 : V9.cell? ⟨w.heap.size, 0, none⟩ = some (.int .i64 m) := B_13.out.cell 0
    have bc1 : V9.cell? ⟨w.heap.size, 1, none⟩ = some (.slice A hs.length c) := B_13.out.cell 1
    go_wp2_with fail
    refine (TO.out V9 B_13.out.1).mono ?_
    rintro e V16 ⟨grx, rfl, o18, h17⟩
    have B_19 := Lib.hid (B_13.out.old h17)
    have HB3_20 := Lib.hid (HB3_0.out.trans (Below.mono h17 HB3_0.out.size))
    have rx_21 := Lib.hid (RdH.of_own o18 rfl)
    have Orx_22 := Lib.hid o18
    clear B_13 HB3_0 h17 o18
    clear bc0 bc1
    have X_23 := Lib.hid (AtS.next B_19.out 46 #[.int .i64 m, .slice (some ⟨grx, 0, none⟩) hs.length hs.length])
    have B_24 := Lib.hid (B_19.out.old ((Below.refl _ _).alloc (Nat.le_refl _) (.cells #[.int .i64 m, .slice (some ⟨grx, 0, none⟩) hs.length hs.length] 46)))
    have rx_25 := Lib.hid (rx_21.out.next ((Below.refl _ _).alloc (Nat.le_refl _) (.cells #[.int .i64 m, .slice (some ⟨grx, 0, none⟩) hs.length hs.length] 46)))
    have Orx_26 := Lib.hid (own_.own_below Orx_22.out ((Below.refl _ _).alloc (Nat.le_refl _) (.cells #[.int .i64 m, .slice (some ⟨grx, 0, none⟩) hs.length hs.length] 46)))
    have HB3_27 := Lib.hid (HB3_20.out.trans (Below.mono ((Below.refl _ _).alloc (Nat.le_refl _) (.cells #[.int .i64 m, .slice (some ⟨grx, 0, none⟩) hs.length hs.length] 46)) HB3_20.out.size))
    clear B_19 rx_21 Orx_22 HB3_20
    go_upto_region 7 with fail
    generalize V16.alloc (.cells #[.int .i64 m, .slice (some ⟨grx, 0, none⟩) hs.length hs.length] 46) = V28 at *
    generalize hqb29 : V16.heap.size = b29 at *
    clear hqb29
    have GL := Lib.hid (show grx < V28.heap.size from own_row_lt Orx_26.out grx rfl)
    have GE := Lib.hid (show V9.heap.size ≤ grx from own_.row_ge Orx_26.out grx rfl)
    have L35 := Lib.hid (show V9.heap.size ≤ V28.heap.size from HB3_27.out.size)
    have HB5_0 := Lib.hid (Below.refl V28.heap.size V28)
    have xc0 : V28.cell? ⟨b29, 0, none⟩ = some (.int .i64 m) := X_23.out.cell 0
    have xc1 : V28.cell? ⟨b29, 1, none⟩ = some (.slice (some ⟨grx, 0, none⟩) hs.length hs.length) := X_23.out.cell 1
    go_wp2_with fail
    refine (IM.out _ _ rx_25.out).mono ?_
    rintro e V30 ⟨v33, rfl, o32, h31⟩
    have B_34 := Lib.hid (B_24.out.old h31)
    have X_35 := Lib.hid (X_23.out.old h31)
    have rx_36 := Lib.hid (rx_25.out.next h31)
    have Orx_37 := Lib.hid (own_.own_below Orx_26.out h31)
    have HB3_38 := Lib.hid (HB3_27.out.trans (Below.mono h31 HB3_27.out.size))
    have HB5_39 := Lib.hid (HB5_0.out.trans (Below.mono h31 HB5_0.out.size))
    obtain ⟨Arg, crg, rfl⟩ := own_slice o32
    have rg_40 := Lib.hid (RdI.of_own o32 rfl)
    have Org_41 := Lib.hid o32
    clear B_24 X_23 rx_25 Orx_26 HB3_27 HB5_0 h31 o32
    clear xc0 xc1
    have HE42 := Lib.hid (eq_same Z Arg Arw Z.length crg crw V30 (by omega) (RdI.of_own Org_41.out rfl) (RW.out.next HB3_38.out))
    go_wp2_with (go_at_call 52; refine HE42.out.mono ?_; rintro e w' ⟨rfl, j43, rfl⟩)
    have B_44 := Lib.hid (B_34.out.old (aid.below_drewN (Below.refl _ _) j43))
    have X_45 := Lib.hid (X_35.out.old (aid.below_drewN (Below.refl _ _) j43))
    have rx_46 := Lib.hid (rx_36.out.next (aid.below_drewN (Below.refl _ _) j43))
    have Orx_47 := Lib.hid (own_.own_below Orx_37.out (aid.below_drewN (Below.refl _ _) j43))
    have Org_48 := Lib.hid (own_.own_below Org_41.out (aid.below_drewN (Below.refl _ _) j43))
    have HB3_49 := Lib.hid (HB3_38.out.trans (Below.mono (aid.below_drewN (Below.refl _ _) j43) HB3_38.out.size))
    have HB5_50 := Lib.hid (HB5_39.out.trans (Below.mono (aid.below_drewN (Below.refl _ _) j43) HB5_39.out.size))
    clear B_34 X_35 rx_36 Orx_37 Org_41 HB3_38 HB5_39 HE42
    generalize V30.drewN j43 = V51 at *
    go_upto_region 10 with fail
    have CS := Lib.hid (show ∀ WZ : World, Below V51.heap.size V51 WZ → WZ.cell? ⟨w.heap.size, 0, none⟩ = some (.int .i64 m) ∧ WZ.cell? ⟨w.heap.size, 1, none⟩ = some (.slice A hs.length c) ∧ WZ.cell? ⟨b29, 0, none⟩ = some (.int .i64 m) ∧ WZ.cell? ⟨b29, 1, none⟩ = some (.slice (some ⟨grx, 0, none⟩) hs.length hs.length) from fun WZ hz => And.intro (posx.at_cell (B_44.out.old hz) 0 (.int .i64 m) rfl) (And.intro (posx.at_cell (B_44.out.old hz) 1 (.slice A hs.length c) rfl) (And.intro (posx.at_cell (X_45.out.old hz) 0 (.int .i64 m) rfl) (posx.at_cell (X_45.out.old hz) 1 (.slice (some ⟨grx, 0, none⟩) hs.length hs.length) rfl))))
    have TQ := Lib.hid (fun (WZ : World) (hz : Below V51.heap.size V51 WZ) => TO.out WZ (B_44.out.old hz).1)
    have EQ := Lib.hid (fun (WZ : World) (g : Nat) (hz : Below V51.heap.size V51 WZ) (h : RdH WZ WZ.heap.size (some ⟨g, 0, none⟩) hs) => rcvc.eqReceiver m hs (some ⟨grx, 0, none⟩) (some ⟨g, 0, none⟩) hs.length hs.length WZ (by omega) (rx_46.out.next hz) h)
    go_cut [45] from 41 to 45 (fun p wz => p = .bool false ∧ Below V51.heap.size V51 wz)
    case first =>
      go_region_held3 (fun w' => w'.cell? ⟨w.heap.size, 0, none⟩ = some (.int .i64 m) ∧ w'.cell? ⟨w.heap.size, 1, none⟩ = some (.slice A hs.length c) ∧ w'.cell? ⟨b29, 0, none⟩ = some (.int .i64 m) ∧ w'.cell? ⟨b29, 1, none⟩ = some (.slice (some ⟨grx, 0, none⟩) hs.length hs.length)) (first
        | exact CS.out _ (Below.refl V51.heap.size V51).drew
        | exact CS.out _ (by assumption)
        | go_keep) (first
        | (go_at_call 41; (with_reducible refine (TQ.out _ (by first | exact (Below.refl V51.heap.size V51).drew | assumption)).mono ?_); rintro e w' ⟨g, rfl, ho, hb⟩
           have hbl := posx.bl_next (V := V51) (by first | exact (Below.refl V51.heap.size V51).drew | assumption) hb
           have hrd := RdH.of_own ho rfl
           clear ho hb)
        | (go_at_call 42; (with_reducible refine (EQ.out _ _ (by assumption) (by assumption)).mono ?_); rintro e w' ⟨rfl, hb⟩
           have hbl2 := posx.bl_next (V := V51) (by assumption) hb
           clear hb))
      all_goals (go_wp2_with fail; go_meet; exact ⟨rfl, by assumption⟩)
    case rest =>
      obtain ⟨rfl, hg⟩ := hcut
      have B_52 := Lib.hid (B_44.out.old hg)
      have X_53 := Lib.hid (X_45.out.old hg)
      have rx_54 := Lib.hid (rx_46.out.next hg)
      have Orx_55 := Lib.hid (own_.own_below Orx_47.out hg)
      have Org_56 := Lib.hid (own_.own_below Org_48.out hg)
      have HB3_57 := Lib.hid (HB3_49.out.trans (Below.mono hg HB3_49.out.size))
      have HB5_58 := Lib.hid (HB5_50.out.trans (Below.mono hg HB5_50.out.size))
      clear B_44 X_45 rx_46 Orx_47 Org_48 HB3_49 HB5_50 CS TQ EQ hg
      generalize wc = V59 at *
      have xc0 : V59.cell? ⟨b29, 0, none⟩ = some (.int .i64 m) := X_53.out.cell 0
      have xc1 : V59.cell? ⟨b29, 1, none⟩ = some (.slice (some ⟨grx, 0, none⟩) hs.length hs.length) := X_53.out.cell 1
      go_wp2_with fail
      refine (rcvd.markR V9.heap.size m (some ⟨grx, 0, none⟩) 1 hs.length hs V59 HB3_57.out.size (by omega) Orx_55.out).mono ?_
      rintro e V60 ⟨rfl, hb9, hg9, -⟩
      have B_61 := Lib.hid (at_low B_52.out hb9 BLT.out (Nat.le_of_lt BLT.out))
      have Org_62 := Lib.hid (own_kept Org_56.out hg9 (fun g e => by simp [Value.ownBlock] at e; subst e; exact GL.out))
      have HB3_63 := Lib.hid (HB3_57.out.trans hb9)
      clear B_52 X_53 Org_56 Orx_55 rx_54 HB3_57 HB5_58 hb9 hg9 xc0 xc1
      have K8 : decide (((1 + hs.length * 10 : Nat) : Int) < 0) = false := decide_eq_false (by omega)
      have HE64 := Lib.hid (eq_same Z Arg Arw Z.length crg crw V60 (by omega) (RdI.of_own Org_62.out rfl) (RW.out.next HB3_63.out))
      go_wp2_with (go_at_call 52; refine HE64.out.mono ?_; rintro e w' ⟨rfl, j65, rfl⟩)
      have B_66 := Lib.hid (B_61.out.old (aid.below_drewN (Below.refl _ _) j65))
      have Org_67 := Lib.hid (own_.own_below Org_62.out (aid.below_drewN (Below.refl _ _) j65))
      have HB3_68 := Lib.hid (HB3_63.out.trans (Below.mono (aid.below_drewN (Below.refl _ _) j65) HB3_63.out.size))
      clear B_61 Org_62 HB3_63 HE64
      generalize V60.drewN j65 = V69 at *
      refine (Go.Proofs.Ytdeghpihcddlgaa.ints.mark V28.heap.size Arg 1 Z.length crg _ V69 (by omega) Org_67.out).mono ?_
      rintro e V70 ⟨rfl, hb10, ho10⟩
      have RM := Lib.hid (own_marks ho10)
      have B_71 := Lib.hid (at_low B_66.out hb10 (Nat.lt_of_lt_of_le BLT.out L35.out) (Nat.le_trans (Nat.le_of_lt BLT.out) L35.out))
      have HB3_72 := Lib.hid (HB3_68.out.trans (hb10.mono L35.out))
      clear B_66 Org_67 HB3_68 hb10 ho10
      go_wp2_with fail
      refine (Go.Proofs.Ytdeghpihcddlgaa.ints.held Arg 1 Z.length crg V70 (by omega) RM.out).mono ?_
      rintro e wx ⟨rfl, rfl⟩
      have K11 : decide (((1 + Z.length : Nat) : Int) < 0) = false := decide_eq_false (by omega)
      have K12 : (((1 + Z.length : Nat) : Int) != ((1 + Z.length : Nat) : Int)) = false := int_ne_self _
      have bc0 : V70.cell? ⟨w.heap.size, 0, none⟩ = some (.int .i64 m) := B_71.out.cell 0
      have bc1 : V70.cell? ⟨w.heap.size, 1, none⟩ = some (.slice A hs.length c) := B_71.out.cell 1
      go_wp2_with fail
      refine (TO.out V70 B_71.out.1).mono ?_
      rintro e V73 ⟨gry, rfl, o75, h74⟩
      have B_76 := Lib.hid (B_71.out.old h74)
      have RM_77 := Lib.hid (RM.out.next h74)
      have HB3_78 := Lib.hid (HB3_72.out.trans (Below.mono h74 HB3_72.out.size))
      have ry_79 := Lib.hid (RdH.of_own o75 rfl)
      clear B_71 RM HB3_72 h74 o75
      clear bc0 bc1
      go_wp2_with fail
      refine (IM.out _ _ ry_79.out).mono ?_
      rintro e V80 ⟨v83, rfl, o82, h81⟩
      have B_84 := Lib.hid (B_76.out.old h81)
      have RM_85 := Lib.hid (RM_77.out.next h81)
      have ry_86 := Lib.hid (ry_79.out.next h81)
      have HB3_87 := Lib.hid (HB3_78.out.trans (Below.mono h81 HB3_78.out.size))
      obtain ⟨Arh, crh, rfl⟩ := own_slice o82
      have rh_88 := Lib.hid (RdI.of_own o82 rfl)
      clear B_76 RM_77 ry_79 HB3_78 h81 o82
      clear ry_86
      have HE89 := Lib.hid (eq_same Z Arh Arw Z.length crh crw V80 (by omega) rh_88.out (RW.out.next HB3_87.out))
      go_wp2_with (go_at_call 52; refine HE89.out.mono ?_; rintro e w' ⟨rfl, j90, rfl⟩)
      have B_91 := Lib.hid (B_84.out.old (aid.below_drewN (Below.refl _ _) j90))
      have RM_92 := Lib.hid (RM_85.out.next (aid.below_drewN (Below.refl _ _) j90))
      have rh_93 := Lib.hid (rh_88.out.next (aid.below_drewN (Below.refl _ _) j90))
      have HB3_94 := Lib.hid (HB3_87.out.trans (Below.mono (aid.below_drewN (Below.refl _ _) j90) HB3_87.out.size))
      clear B_84 RM_85 rh_88 HB3_87 HE89
      generalize V80.drewN j90 = V95 at *
      refine (Go.Proofs.Ytdeghpihcddlgaa.ints.held Arg 1 Z.length crg V95 (by omega) RM_92.out).mono ?_
      rintro e wx ⟨rfl, rfl⟩
      go_wp2_with fail
      go_ret
      exact ⟨rfl, B_91.out.1⟩
  · have HZ := Lib.hid (fun w => rcvc.szReceiver m A hs.length c w hn)
    simp only [if_neg hl] at HZ
    have B0 := Lib.hid (newS 65 #[.int .i64 m, .slice A hs.length c] w)
    clear hr hn hl
    generalize hs.length = n at *
    go_enter Try.func10, Try.ntmps10
    go_wp2_with fail
    refine (HZ.out _).mono ?_
    rintro e w2 ⟨rfl, hb⟩
    have hb2 := (B0.out.old hb).1
    go_wp2_with fail
    go_ret
    exact ⟨rfl, hb2⟩


theorem own : ownKnob Try.prog.godebug = none := by kernel_rfl
theorem laidOut : laidOutB Try.prog = true := by kernel_rfl

set_option maxRecDepth 100000 in
theorem lifted (os : Os) (started : os.Started) (H : Type) (enc : TypeId × Value → H) :
    ReturnsInHanded {} Try.checked os 10 .any (Rows.fnExactFreshAddressesSpec.pre6 enc Try.prog Try.f10 Rows.fnExactFreshAddressesRow.domain false) (Rows.fnExactFreshAddressesSpec.post enc Try.prog Try.f10 false true false false) := by
  refine returnsInHanded_of_change (C := Try.checked) own started (by kernel_rfl) Try.func10
    (ChangeSpec.witness6 (enc := enc) (C := Try.checked) false ⟨#[], #[.agg #[.int .i64 0, .slice none 0 0]], []⟩ 8 (by kernel_rfl) (by kernel_rfl) (by kernel_rfl) (by kernel_rfl)) ?_
  intro W base args ds gs before hval0 hW hcnd _
  have hval : ∀ (j : Nat) t v, Try.f10.params[j]? = some t → args[j]? = some v → Value.okWide Try.prog W .any base t v := hval0
  have hW' := hW
  obtain ⟨p, q, hA0, hV, rfl, hfz, hnd⟩ := hW
  have hA : DataW.TrodAll enc Try.prog W 0 (fun _ => true) true Try.f10.params.toList args.toList ds p := hA0
  rw [Try.params10] at hA hval
  obtain ⟨v0, vs0, d0, ds0, p0, q0, hargs, rfl, rfl, h0, r0⟩ := trodAll_cons hA
  obtain ⟨rfl, rfl, rfl⟩ := trodAll_nil r0
  obtain rfl : args = #[v0] := by cases args; simp_all
  obtain ⟨rfl, rfl⟩ := trodVars_none hV
  have k0 := h0
  have lt0 : ∀ x ∈ p0, x.block < W.heap.size := by obtain ⟨m, hm⟩ := k0; exact DataW.trod_lt m _ _ _ hm
  obtain ⟨m0, a0, c0, z0, rfl, w0, n0⟩ := rcvo.open_receiver (hval 0 65 v0 rfl rfl) h0
  clear hA0 hval0
  refine (walk m0 a0 c0 z0 W w0 n0).mono fun e W' ⟨he, bel⟩ => ?_
  subst he
  exact ⟨_, rfl, _, _, _, [], _, [], hW', trodAll_mk1 (shut_bool Try.underlying4 _), (trodAll_cons_mk (Below.trod laidOut (by kernel_rfl) (of_decide_eq_true (by kernel_rfl)) k0 bel lt0) trodAll_mk0), rfl, bel.frame _, fun h => by cases h⟩

theorem over : Rows.fnExactFreshAddressesRow.holds Try.pinned (OpenSpec.ofChange Rows.fnExactFreshAddressesSpec) :=
  OpenClaim.holds_of_wide 10 Try.f10 rfl rfl rfl rfl rfl rfl rfl ⟨rfl, rfl, rfl, rfl, rfl⟩ rfl rfl rfl rfl rfl (by kernel_rfl) Try.func10 (by kernel_rfl)
    (of_decide_eq_true (by kernel_rfl)) (by unfold Func.isWrapper; first | (rw [if_pos (by decide +kernel)]; kernel_rfl) | (rw [if_neg (by decide +kernel)]; exact ⟨rfl, rfl⟩))
    (fun os started H enc _ => lifted os started H enc)

theorem proved : Rows.FnExactFreshAddressesSaid :=
  over
#print axioms proved
end Go.Proofs.Ytdeghpihcddlgaa.fnExactFreshAddresses
