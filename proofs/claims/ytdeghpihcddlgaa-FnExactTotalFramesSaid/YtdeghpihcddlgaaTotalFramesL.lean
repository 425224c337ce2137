/- For every receiver the law FnExactTotalFrames returns true: impl.TotalFrames and spec.TotalFrames return the same sum, or both 0 and false; the argument is left as it was. No condition. -/
import Derived.Test.YtdeghpihcddlgaaRows
import Derived.Test.YtdeghpihcddlgaaRcvF
import Derived.Test.YtdeghpihcddlgaaRcvG
import Derived.Test.YtdeghpihcddlgaaRcvO
import Derived.Test.YtdeghpihcddlgaaRcvC
import Derived.WalkKit
import Derived.ProofKit
import Derived.OpenShut
import Derived.ShutString
import Derived.ChangeOld
import Derived.Below
import Derived.Lib.SmallJoins
import Derived.Lib.QuietBelow
import Derived.Deep.RegionHeld3
import Derived.Deep.CutRange
namespace Go.Proofs.Ytdeghpihcddlgaa.fnExactTotalFrames
open Go.ChangeShapes Go.WideShapes Go.ChangeAt Go.RowKit Go.Joins Go.Proofs.Ytdeghpihcddlgaa.ats Go.Proofs.Ytdeghpihcddlgaa.rcv Go.Proofs.Ytdeghpihcddlgaa.rcvm
open Go.ChangeMaps (open_string shut_string)
set_option linter.unusedVariables false

theorem bool_ne_self (b : Bool) : (b != b) = false := by simp
theorem int_ne_self (x : Int) : (x != x) = false := by simp

set_option maxRecDepth 100000 in
set_option maxHeartbeats 8000000 in
theorem walk (m : Int) (A : Option Addr) (c : Nat) (hs : List Hd) (w : World) (hr : RdH w w.heap.size A hs) (hn : hs.length ≤ maxLen) :
    Calls Try.prog 11 #[.agg #[.int .i64 m, .slice A hs.length c]] w fun e w' => e = .returned (.bool true) ∧ Below w.heap.size w w' := by
  by_cases hl : hs.length ≤ 1048576
  · have HZ := Lib.hid (fun w => rcvc.szReceiver m A hs.length c w hn)
    simp only [if_pos hl] at HZ
    have d0 : decide ((1048576 : Int) - (hs.length : Int) < 0) = false := decide_eq_false (by omega)
    have TO := Lib.hid (fun (W : World) (hb : Below w.heap.size w W) => rcvc.toReceiver m hs A c W (by omega) (hr.next hb))
    have SP := Lib.hid (fun (W : World) (g : Nat) (h : RdH W W.heap.size (some ⟨g, 0, none⟩) hs) => rcvf.totalFrames m hs (some ⟨g, 0, none⟩) hs.length W (by omega) h)
    have IM := Lib.hid (fun (W : World) (g : Nat) (h : RdH W W.heap.size (some ⟨g, 0, none⟩) hs) => rcvg.totalFrames m hs (some ⟨g, 0, none⟩) hs.length W (by omega) h)
    generalize tfV m hs = v at *
    generalize vB m hs = O at *
    have ni := int_ne_self v
    have nb := bool_ne_self O
    clear hr
    have HB0 := Lib.hid (Below.refl w.heap.size w)
    have B1 := Lib.hid (newS 65 #[.int .i64 m, .slice A hs.length c] w)
    have HB1a := Lib.hid (HB0.out.alloc HB0.out.size (.cells #[.int .i64 m, .slice A hs.length c] 65))
    clear HB0
    go_enter Try.func11, Try.ntmps11
    go_wp2_with fail
    generalize (w.alloc (.cells #[.int .i64 m, .slice A hs.length c] 65)) = V2 at *
    refine (HZ.out _).mono ?_
    rintro e V3 ⟨rfl, h3⟩
    have HB3 := Lib.hid (HB1a.out.trans (h3.mono HB1a.out.size))
    have B3 := Lib.hid (B1.out.old h3)
    clear HB1a B1 h3
    have b0_ : V3.cell? ⟨w.heap.size, 0, none⟩ = some (.int .i64 m) := B3.out.cell 0
    have b1_ : V3.cell? ⟨w.heap.size, 1, none⟩ = some (.slice A hs.length c) := B3.out.cell 1
    have blt_ := B3.out.2.2.1
    go_wp2_with fail
    clear b0_ b1_ blt_
    refine (TO.out V3 HB3.out).mono ?_
    rintro e V4 ⟨grs, rfl, o4, h4⟩
    have HB4 := Lib.hid (HB3.out.trans (h4.mono HB3.out.size))
    have B4 := Lib.hid (B3.out.old h4)
    have rs4 := Lib.hid (RdH.of_own o4 rfl)
    clear HB3 B3 h4 o4
    go_wp2_with fail
    refine (SP.out _ _ rs4.out).mono ?_
    rintro e V5 ⟨rfl, h5⟩
    have HB5 := Lib.hid (HB4.out.trans (h5.mono HB4.out.size))
    have B5 := Lib.hid (B4.out.old h5)
    have rs6r := Lib.hid (rs4.out.next h5)
    clear HB4 B4 rs4 h5
    have b0_ : V5.cell? ⟨w.heap.size, 0, none⟩ = some (.int .i64 m) := B5.out.cell 0
    have b1_ : V5.cell? ⟨w.heap.size, 1, none⟩ = some (.slice A hs.length c) := B5.out.cell 1
    have blt_ := B5.out.2.2.1
    go_wp2_with fail
    clear b0_ b1_ blt_
    refine (TO.out V5 HB5.out).mono ?_
    rintro e V7 ⟨grx, rfl, o7, h7⟩
    have HB7 := Lib.hid (HB5.out.trans (h7.mono HB5.out.size))
    have B7 := Lib.hid (B5.out.old h7)
    have rx7 := Lib.hid (RdH.of_own o7 rfl)
    clear HB5 B5 h7 o7
    have X8 := Lib.hid (newS 46 #[.int .i64 m, .slice (some ⟨grx, 0, none⟩) hs.length hs.length] V7)
    have B8a := Lib.hid (B7.out.alloc (.cells #[.int .i64 m, .slice (some ⟨grx, 0, none⟩) hs.length hs.length] 46))
    clear B7
    have rx8d := Lib.hid (rx7.out.next ((Below.refl _ _).alloc (Nat.le_refl _) (.cells #[.int .i64 m, .slice (some ⟨grx, 0, none⟩) hs.length hs.length] 46)))
    clear rx7
    have HB8a := Lib.hid (HB7.out.alloc HB7.out.size (.cells #[.int .i64 m, .slice (some ⟨grx, 0, none⟩) hs.length hs.length] 46))
    clear HB7
    go_wp2_with fail
    generalize (V7.alloc (.cells #[.int .i64 m, .slice (some ⟨grx, 0, none⟩) hs.length hs.length] 46)) = V9 at *
    generalize V7.heap.size = b9 at *
    have x0_ : V9.cell? ⟨b9, 0, none⟩ = some (.int .i64 m) := X8.out.cell 0
    have x1_ : V9.cell? ⟨b9, 1, none⟩ = some (.slice (some ⟨grx, 0, none⟩) hs.length hs.length) := X8.out.cell 1
    have xlt_ := X8.out.2.2.1
    go_wp2_with fail
    clear x0_ x1_ xlt_
    refine (IM.out _ _ rx8d.out).mono ?_
    rintro e V10 ⟨rfl, h10⟩
    have HB10 := Lib.hid (HB8a.out.trans (h10.mono HB8a.out.size))
    have B10 := Lib.hid (B8a.out.old h10)
    have X10 := Lib.hid (X8.out.old h10)
    have rx11r := Lib.hid (rx8d.out.next h10)
    clear HB8a B8a X8 rx8d h10
    go_upto_region 10 with fail
    have CS12 := Lib.hid (show ∀ WZ : World, Below V10.heap.size V10 WZ → WZ.cell? ⟨w.heap.size, 0, none⟩ = some (.int .i64 m) ∧ WZ.cell? ⟨w.heap.size, 1, none⟩ = some (.slice A hs.length c) ∧ WZ.cell? ⟨b9, 0, none⟩ = some (.int .i64 m) ∧ WZ.cell? ⟨b9, 1, none⟩ = some (.slice (some ⟨grx, 0, none⟩) hs.length hs.length) from fun WZ hz => And.intro (posx.at_cell (B10.out.old hz) 0 (.int .i64 m) rfl) (And.intro (posx.at_cell (B10.out.old hz) 1 (.slice A hs.length c) rfl) (And.intro (posx.at_cell (X10.out.old hz) 0 (.int .i64 m) rfl) (posx.at_cell (X10.out.old hz) 1 (.slice (some ⟨grx, 0, none⟩) hs.length hs.length) rfl))))
    have TQ12 := Lib.hid (fun (WZ : World) (hz : Below V10.heap.size V10 WZ) => TO.out WZ (HB10.out.trans (hz.mono HB10.out.size)))
    have EQ12 := Lib.hid (fun (WZ : World) (g : Nat) (hz : Below V10.heap.size V10 WZ) (h : RdH WZ WZ.heap.size (some ⟨g, 0, none⟩) hs) => rcvc.eqReceiver m hs (some ⟨grx, 0, none⟩) (some ⟨g, 0, none⟩) hs.length hs.length WZ (by omega) (rx11r.out.next hz) h)
    go_cut [39] from 35 to 39 (fun p wz => p = .bool false ∧ Below V10.heap.size V10 wz)
    case first =>
      go_region_held3 (fun w' => w'.cell? ⟨w.heap.size, 0, none⟩ = some (.int .i64 m) ∧ w'.cell? ⟨w.heap.size, 1, none⟩ = some (.slice A hs.length c) ∧ w'.cell? ⟨b9, 0, none⟩ = some (.int .i64 m) ∧ w'.cell? ⟨b9, 1, none⟩ = some (.slice (some ⟨grx, 0, none⟩) hs.length hs.length)) (first
        | exact CS12.out _ (Below.refl V10.heap.size V10).drew
        | exact CS12.out _ (by assumption)
        | go_keep) (first
        | (go_at_call 41; (with_reducible refine (TQ12.out _ (by first | exact (Below.refl V10.heap.size V10).drew | assumption)).mono ?_); rintro e w' ⟨g, rfl, ho, hb⟩
           have hbl := posx.bl_next (V := V10) (by first | exact (Below.refl V10.heap.size V10).drew | assumption) hb
           have hrd := RdH.of_own ho rfl
           clear ho hb)
        | (go_at_call 42; (with_reducible refine (EQ12.out _ _ (by assumption) (by assumption)).mono ?_); rintro e w' ⟨rfl, hb⟩
           have hbl2 := posx.bl_next (V := V10) (by assumption) hb
           clear hb))
      all_goals (go_wp2_with fail; go_meet; exact ⟨rfl, by assumption⟩)
    case rest =>
      obtain ⟨rfl, hg12⟩ := hcut
      have HB12 := Lib.hid (HB10.out.trans (hg12.mono HB10.out.size))
      have B12 := Lib.hid (B10.out.old hg12)
      have X12 := Lib.hid (X10.out.old hg12)
      have rx13r := Lib.hid (rx11r.out.next hg12)
      clear HB10 B10 X10 rx11r CS12 TQ12 EQ12 hg12
      generalize wc = V14 at *
      go_wp2_with fail
      go_ret
      exact ⟨rfl, HB12.out⟩
  · have HZ := Lib.hid (fun w => rcvc.szReceiver m A hs.length c w hn)
    simp only [if_neg hl] at HZ
    have B0 := Lib.hid (newS 65 #[.int .i64 m, .slice A hs.length c] w)
    clear hr hn hl
    generalize hs.length = n at *
    go_enter Try.func11, Try.ntmps11
    go_wp2_with fail
    refine (HZ.out _).mono ?_
    rintro e w2 ⟨rfl, hb⟩
    have hb2 := (B0.out.old hb).1
    go_wp2_with fail
    go_ret
    exact ⟨rfl, hb2⟩


theorem own : ownKnob Try.prog.godebug = none := by kernel_rfl
theorem laidOut : laidOutB Try.prog = true := by kernel_rfl

set_option maxRecDepth 100000 in
theorem lifted (os : Os) (started : os.Started) (H : Type) (enc : TypeId × Value → H) :
    ReturnsInHanded {} Try.checked os 11 .any (Rows.fnExactTotalFramesSpec.pre6 enc Try.prog Try.f11 Rows.fnExactTotalFramesRow.domain false) (Rows.fnExactTotalFramesSpec.post enc Try.prog Try.f11 false true false false) := by
  refine returnsInHanded_of_change (C := Try.checked) own started (by kernel_rfl) Try.func11
    (ChangeSpec.witness6 (enc := enc) (C := Try.checked) false ⟨#[], #[.agg #[.int .i64 0, .slice none 0 0]], []⟩ 8 (by kernel_rfl) (by kernel_rfl) (by kernel_rfl) (by kernel_rfl)) ?_
  intro W base args ds gs before hval0 hW hcnd _
  have hval : ∀ (j : Nat) t v, Try.f11.params[j]? = some t → args[j]? = some v → Value.okWide Try.prog W .any base t v := hval0
  have hW' := hW
  obtain ⟨p, q, hA0, hV, rfl, hfz, hnd⟩ := hW
  have hA : DataW.TrodAll enc Try.prog W 0 (fun _ => true) true Try.f11.params.toList args.toList ds p := hA0
  rw [Try.params11] at hA hval
  obtain ⟨v0, vs0, d0, ds0, p0, q0, hargs, rfl, rfl, h0, r0⟩ := trodAll_cons hA
  obtain ⟨rfl, rfl, rfl⟩ := trodAll_nil r0
  obtain rfl : args = #[v0] := by cases args; simp_all
  obtain ⟨rfl, rfl⟩ := trodVars_none hV
  have k0 := h0
  have lt0 : ∀ x ∈ p0, x.block < W.heap.size := by obtain ⟨m, hm⟩ := k0; exact DataW.trod_lt m _ _ _ hm
  obtain ⟨m0, a0, c0, z0, rfl, w0, n0⟩ := rcvo.open_receiver (hval 0 65 v0 rfl rfl) h0
  clear hA0 hval0
  refine (walk m0 a0 c0 z0 W w0 n0).mono fun e W' ⟨he, bel⟩ => ?_
  subst he
  exact ⟨_, rfl, _, _, _, [], _, [], hW', trodAll_mk1 (shut_bool Try.underlying4 _), (trodAll_cons_mk (Below.trod laidOut (by kernel_rfl) (of_decide_eq_true (by kernel_rfl)) k0 bel lt0) trodAll_mk0), rfl, bel.frame _, fun h => by cases h⟩

theorem over : Rows.fnExactTotalFramesRow.holds Try.pinned (OpenSpec.ofChange Rows.fnExactTotalFramesSpec) :=
  OpenClaim.holds_of_wide 11 Try.f11 rfl rfl rfl rfl rfl rfl rfl ⟨rfl, rfl, rfl, rfl, rfl⟩ rfl rfl rfl rfl rfl (by kernel_rfl) Try.func11 (by kernel_rfl)
    (of_decide_eq_true (by kernel_rfl)) (by unfold Func.isWrapper; first | (rw [if_pos (by decide +kernel)]; kernel_rfl) | (rw [if_neg (by decide +kernel)]; exact ⟨rfl, rfl⟩))
    (fun os started H enc _ => lifted os started H enc)

theorem proved : Rows.FnExactTotalFramesSaid :=
  over
#print axioms proved
end Go.Proofs.Ytdeghpihcddlgaa.fnExactTotalFrames
