/- For every receiver and address the law FnExactPositionNow returns true: impl.PositionNow and spec.PositionNow return the same place, or both a zero place and false; the argument is left as it was. No condition. -/
import Derived.Test.YtdeghpihcddlgaaRows
import Derived.Test.YtdeghpihcddlgaaRcvH
import Derived.Test.YtdeghpihcddlgaaRcvO
import Derived.Test.YtdeghpihcddlgaaRcvC
import Derived.WalkKit
import Derived.ProofKit
import Derived.OpenShut
import Derived.ShutString
import Derived.ChangeOld
import Derived.Below
import Derived.Lib.SmallJoins
import Derived.Lib.QuietBelow
import Derived.Deep.RegionHeld3
import Derived.Deep.CutRange
namespace Go.Proofs.Ytdeghpihcddlgaa.fnExactPositionNow
open Go.ChangeShapes Go.WideShapes Go.ChangeAt Go.RowKit Go.Joins Go.Proofs.Ytdeghpihcddlgaa.ats Go.Proofs.Ytdeghpihcddlgaa.rcv Go.Proofs.Ytdeghpihcddlgaa.rcvm
open Go.ChangeMaps (open_string shut_string)
set_option linter.unusedVariables false

theorem bool_ne_self (b : Bool) : (b != b) = false := by simp
theorem int_ne_self (x : Int) : (x != x) = false := by simp

set_option maxRecDepth 100000 in
set_option maxHeartbeats 8000000 in
theorem walk (m : Int) (A : Option Addr) (c : Nat) (hs : List Hd) (a1 : Int) (w : World) (hr : RdH w w.heap.size A hs) (hn : hs.length ≤ maxLen) (w1 : (Lit.int .i64 a1).wf = true) :
    Calls Try.prog 8 #[.agg #[.int .i64 m, .slice A hs.length c], .int .i64 a1] w fun e w' => e = .returned (.bool true) ∧ Below w.heap.size w w' := by
  by_cases hl : hs.length ≤ 1048576
  · have HZ := Lib.hid (fun w => rcvc.szReceiver m A hs.length c w hn)
    simp only [if_pos hl] at HZ
    have d0 : decide ((1048576 : Int) - (hs.length : Int) < 0) = false := decide_eq_false (by omega)
    have TO := Lib.hid (fun (W : World) (hb : Below w.heap.size w W) => rcvc.toReceiver m hs A c W (by omega) (hr.next hb))
    have SP := Lib.hid (fun (W : World) (g : Nat) (h : RdH W W.heap.size (some ⟨g, 0, none⟩) hs) => rcvh.specNow m hs a1 (some ⟨g, 0, none⟩) hs.length W (by omega) h)
    have IM := Lib.hid (fun (W : World) (g : Nat) (h : RdH W W.heap.size (some ⟨g, 0, none⟩) hs) => rcvh.implNow m hs a1 (some ⟨g, 0, none⟩) hs.length W (by omega) h)
    generalize pnX m hs a1 = x at *
    generalize pnY m hs a1 = y at *
    generalize pnB m hs a1 = O at *
    have nb := bool_ne_self O
    clear w1
    clear hr
    have HB0 := Lib.hid (Below.refl w.heap.size w)
    have B1 := Lib.hid (newS 65 #[.int .i64 m, .slice A hs.length c] w)
    have HB1a := Lib.hid (HB0.out.alloc HB0.out.size (.cells #[.int .i64 m, .slice A hs.length c] 65))
    clear HB0
    go_enter Try.func8, Try.ntmps8
    go_wp2_with fail
    generalize (w.alloc (.cells #[.int .i64 m, .slice A hs.length c] 65)) = V2 at *
    refine (HZ.out _).mono ?_
    rintro e V3 ⟨rfl, h3⟩
    have HB3 := Lib.hid (HB1a.out.trans (h3.mono HB1a.out.size))
    have B3 := Lib.hid (B1.out.old h3)
    clear HB1a B1 h3
    have b0_ : V3.cell? ⟨w.heap.size, 0, none⟩ = some (.int .i64 m) := B3.out.cell 0
    have b1_ : V3.cell? ⟨w.heap.size, 1, none⟩ = some (.slice A hs.length c) := B3.out.cell 1
    have blt_ := B3.out.2.2.1
    go_wp2_with fail
    clear b0_ b1_ blt_
    refine (TO.out V3 HB3.out).mono ?_
    rintro e V4 ⟨grs, rfl, o4, h4⟩
    have HB4 := Lib.hid (HB3.out.trans (h4.mono HB3.out.size))
    have B4 := Lib.hid (B3.out.old h4)
    have rs4 := Lib.hid (RdH.of_own o4 rfl)
    clear HB3 B3 h4 o4
    go_wp2_with fail
    refine (SP.out _ _ rs4.out).mono ?_
    rintro e V5 ⟨rfl, h5⟩
    have HB5 := Lib.hid (HB4.out.trans (h5.mono HB4.out.size))
    have B5 := Lib.hid (B4.out.old h5)
    have rs6r := Lib.hid (rs4.out.next h5)
    clear HB4 B4 rs4 h5
    have S7 := Lib.hid (newS 25 #[.int .i64 x, .int .i64 y] V5)
    have B7a := Lib.hid (B5.out.alloc (.cells #[.int .i64 x, .int .i64 y] 25))
    clear B5
    have rs7d := Lib.hid (rs6r.out.next ((Below.refl _ _).alloc (Nat.le_refl _) (.cells #[.int .i64 x, .int .i64 y] 25)))
    clear rs6r
    have HB7a := Lib.hid (HB5.out.alloc HB5.out.size (.cells #[.int .i64 x, .int .i64 y] 25))
    clear HB5
    have b0_ : (V5.alloc (.cells #[.int .i64 x, .int .i64 y] 25)).cell? ⟨w.heap.size, 0, none⟩ = some (.int .i64 m) := B7a.out.cell 0
    have b1_ : (V5.alloc (.cells #[.int .i64 x, .int .i64 y] 25)).cell? ⟨w.heap.size, 1, none⟩ = some (.slice A hs.length c) := B7a.out.cell 1
    have blt_ := B7a.out.2.2.1
    go_wp2_with fail
    clear b0_ b1_ blt_
    generalize (V5.alloc (.cells #[.int .i64 x, .int .i64 y] 25)) = V8 at *
    generalize V5.heap.size = b8 at *
    refine (TO.out V8 HB7a.out).mono ?_
    rintro e V9 ⟨grx, rfl, o9, h9⟩
    have HB9 := Lib.hid (HB7a.out.trans (h9.mono HB7a.out.size))
    have B9 := Lib.hid (B7a.out.old h9)
    have S9 := Lib.hid (S7.out.old h9)
    have rx9 := Lib.hid (RdH.of_own o9 rfl)
    clear HB7a B7a S7 h9 o9
    have X10 := Lib.hid (newS 46 #[.int .i64 m, .slice (some ⟨grx, 0, none⟩) hs.length hs.length] V9)
    have B10a := Lib.hid (B9.out.alloc (.cells #[.int .i64 m, .slice (some ⟨grx, 0, none⟩) hs.length hs.length] 46))
    clear B9
    have S10a := Lib.hid (S9.out.alloc (.cells #[.int .i64 m, .slice (some ⟨grx, 0, none⟩) hs.length hs.length] 46))
    clear S9
    have rx10d := Lib.hid (rx9.out.next ((Below.refl _ _).alloc (Nat.le_refl _) (.cells #[.int .i64 m, .slice (some ⟨grx, 0, none⟩) hs.length hs.length] 46)))
    clear rx9
    have HB10a := Lib.hid (HB9.out.alloc HB9.out.size (.cells #[.int .i64 m, .slice (some ⟨grx, 0, none⟩) hs.length hs.length] 46))
    clear HB9
    go_wp2_with fail
    generalize (V9.alloc (.cells #[.int .i64 m, .slice (some ⟨grx, 0, none⟩) hs.length hs.length] 46)) = V11 at *
    generalize V9.heap.size = b11 at *
    have x0_ : V11.cell? ⟨b11, 0, none⟩ = some (.int .i64 m) := X10.out.cell 0
    have x1_ : V11.cell? ⟨b11, 1, none⟩ = some (.slice (some ⟨grx, 0, none⟩) hs.length hs.length) := X10.out.cell 1
    have xlt_ := X10.out.2.2.1
    go_wp2_with fail
    clear x0_ x1_ xlt_
    refine (IM.out _ _ rx10d.out).mono ?_
    rintro e V12 ⟨rfl, h12⟩
    have HB12 := Lib.hid (HB10a.out.trans (h12.mono HB10a.out.size))
    have B12 := Lib.hid (B10a.out.old h12)
    have S12 := Lib.hid (S10a.out.old h12)
    have X12 := Lib.hid (X10.out.old h12)
    have rx13r := Lib.hid (rx10d.out.next h12)
    clear HB10a B10a S10a X10 rx10d h12
    have G14 := Lib.hid (newS 25 #[.int .i64 x, .int .i64 y] V12)
    have B14a := Lib.hid (B12.out.alloc (.cells #[.int .i64 x, .int .i64 y] 25))
    clear B12
    have S14a := Lib.hid (S12.out.alloc (.cells #[.int .i64 x, .int .i64 y] 25))
    clear S12
    have X14a := Lib.hid (X12.out.alloc (.cells #[.int .i64 x, .int .i64 y] 25))
    clear X12
    have rx14d := Lib.hid (rx13r.out.next ((Below.refl _ _).alloc (Nat.le_refl _) (.cells #[.int .i64 x, .int .i64 y] 25)))
    clear rx13r
    have HB14a := Lib.hid (HB12.out.alloc HB12.out.size (.cells #[.int .i64 x, .int .i64 y] 25))
    clear HB12
    have s0_ : (V12.alloc (.cells #[.int .i64 x, .int .i64 y] 25)).cell? ⟨b8, 0, none⟩ = some (.int .i64 x) := S14a.out.cell 0
    have s1_ : (V12.alloc (.cells #[.int .i64 x, .int .i64 y] 25)).cell? ⟨b8, 1, none⟩ = some (.int .i64 y) := S14a.out.cell 1
    have slt_ := S14a.out.2.2.1
    have g0_ : (V12.alloc (.cells #[.int .i64 x, .int .i64 y] 25)).cell? ⟨V12.heap.size, 0, none⟩ = some (.int .i64 x) := G14.out.cell 0
    have g1_ : (V12.alloc (.cells #[.int .i64 x, .int .i64 y] 25)).cell? ⟨V12.heap.size, 1, none⟩ = some (.int .i64 y) := G14.out.cell 1
    have glt_ := G14.out.2.2.1
    go_wp2_with fail
    clear s0_ s1_ slt_ g0_ g1_ glt_
    generalize (V12.alloc (.cells #[.int .i64 x, .int .i64 y] 25)) = V15 at *
    generalize V12.heap.size = b15 at *
    refine (posx.eqPlace x y _).mono ?_
    rintro e V16 ⟨rfl, h16⟩
    have HB16 := Lib.hid (HB14a.out.trans (h16.mono HB14a.out.size))
    have B16 := Lib.hid (B14a.out.old h16)
    have S16 := Lib.hid (S14a.out.old h16)
    have X16 := Lib.hid (X14a.out.old h16)
    have G16 := Lib.hid (G14.out.old h16)
    have rx17r := Lib.hid (rx14d.out.next h16)
    clear HB14a B14a S14a X14a G14 rx14d h16
    go_upto_region 10 with fail
    have CS18 := Lib.hid (show ∀ WZ : World, Below V16.heap.size V16 WZ → WZ.cell? ⟨w.heap.size, 0, none⟩ = some (.int .i64 m) ∧ WZ.cell? ⟨w.heap.size, 1, none⟩ = some (.slice A hs.length c) ∧ WZ.cell? ⟨b11, 0, none⟩ = some (.int .i64 m) ∧ WZ.cell? ⟨b11, 1, none⟩ = some (.slice (some ⟨grx, 0, none⟩) hs.length hs.length) from fun WZ hz => And.intro (posx.at_cell (B16.out.old hz) 0 (.int .i64 m) rfl) (And.intro (posx.at_cell (B16.out.old hz) 1 (.slice A hs.length c) rfl) (And.intro (posx.at_cell (X16.out.old hz) 0 (.int .i64 m) rfl) (posx.at_cell (X16.out.old hz) 1 (.slice (some ⟨grx, 0, none⟩) hs.length hs.length) rfl))))
    have TQ18 := Lib.hid (fun (WZ : World) (hz : Below V16.heap.size V16 WZ) => TO.out WZ (HB16.out.trans (hz.mono HB16.out.size)))
    have EQ18 := Lib.hid (fun (WZ : World) (g : Nat) (hz : Below V16.heap.size V16 WZ) (h : RdH WZ WZ.heap.size (some ⟨g, 0, none⟩) hs) => rcvc.eqReceiver m hs (some ⟨grx, 0, none⟩) (some ⟨g, 0, none⟩) hs.length hs.length WZ (by omega) (rx17r.out.next hz) h)
    go_cut [44] from 40 to 44 (fun p wz => p = .bool false ∧ Below V16.heap.size V16 wz)
    case first =>
      go_region_held3 (fun w' => w'.cell? ⟨w.heap.size, 0, none⟩ = some (.int .i64 m) ∧ w'.cell? ⟨w.heap.size, 1, none⟩ = some (.slice A hs.length c) ∧ w'.cell? ⟨b11, 0, none⟩ = some (.int .i64 m) ∧ w'.cell? ⟨b11, 1, none⟩ = some (.slice (some ⟨grx, 0, none⟩) hs.length hs.length)) (first
        | exact CS18.out _ (Below.refl V16.heap.size V16).drew
        | exact CS18.out _ (by assumption)
        | go_keep) (first
        | (go_at_call 41; (with_reducible refine (TQ18.out _ (by first | exact (Below.refl V16.heap.size V16).drew | assumption)).mono ?_); rintro e w' ⟨g, rfl, ho, hb⟩
           have hbl := posx.bl_next (V := V16) (by first | exact (Below.refl V16.heap.size V16).drew | assumption) hb
           have hrd := RdH.of_own ho rfl
           clear ho hb)
        | (go_at_call 42; (with_reducible refine (EQ18.out _ _ (by assumption) (by assumption)).mono ?_); rintro e w' ⟨rfl, hb⟩
           have hbl2 := posx.bl_next (V := V16) (by assumption) hb
           clear hb))
      all_goals (go_wp2_with fail; go_meet; exact ⟨rfl, by assumption⟩)
    case rest =>
      obtain ⟨rfl, hg18⟩ := hcut
      have HB18 := Lib.hid (HB16.out.trans (hg18.mono HB16.out.size))
      have B18 := Lib.hid (B16.out.old hg18)
      have S18 := Lib.hid (S16.out.old hg18)
      have X18 := Lib.hid (X16.out.old hg18)
      have G18 := Lib.hid (G16.out.old hg18)
      have rx19r := Lib.hid (rx17r.out.next hg18)
      clear HB16 B16 S16 X16 G16 rx17r CS18 TQ18 EQ18 hg18
      generalize wc = V20 at *
      go_wp2_with fail
      go_ret
      exact ⟨rfl, HB18.out⟩
  · have HZ := Lib.hid (fun w => rcvc.szReceiver m A hs.length c w hn)
    simp only [if_neg hl] at HZ
    have B0 := Lib.hid (newS 65 #[.int .i64 m, .slice A hs.length c] w)
    clear hr hn hl
    generalize hs.length = n at *
    go_enter Try.func8, Try.ntmps8
    go_wp2_with fail
    refine (HZ.out _).mono ?_
    rintro e w2 ⟨rfl, hb⟩
    have hb2 := (B0.out.old hb).1
    go_wp2_with fail
    go_ret
    exact ⟨rfl, hb2⟩


theorem own : ownKnob Try.prog.godebug = none := by kernel_rfl
theorem laidOut : laidOutB Try.prog = true := by kernel_rfl

set_option maxRecDepth 100000 in
theorem lifted (os : Os) (started : os.Started) (H : Type) (enc : TypeId × Value → H) :
    ReturnsInHanded {} Try.checked os 8 .any (Rows.fnExactPositionNowSpec.pre6 enc Try.prog Try.f8 Rows.fnExactPositionNowRow.domain false) (Rows.fnExactPositionNowSpec.post enc Try.prog Try.f8 false true false false) := by
  refine returnsInHanded_of_change (C := Try.checked) own started (by kernel_rfl) Try.func8
    (ChangeSpec.witness6 (enc := enc) (C := Try.checked) false ⟨#[], #[.agg #[.int .i64 0, .slice none 0 0], .int .i64 0], []⟩ 8 (by kernel_rfl) (by kernel_rfl) (by kernel_rfl) (by kernel_rfl)) ?_
  intro W base args ds gs before hval0 hW hcnd _
  have hval : ∀ (j : Nat) t v, Try.f8.params[j]? = some t → args[j]? = some v → Value.okWide Try.prog W .any base t v := hval0
  have hW' := hW
  obtain ⟨p, q, hA0, hV, rfl, hfz, hnd⟩ := hW
  have hA : DataW.TrodAll enc Try.prog W 0 (fun _ => true) true Try.f8.params.toList args.toList ds p := hA0
  rw [Try.params8] at hA hval
  obtain ⟨v0, vs0, d0, ds0, p0, q0, hargs, rfl, rfl, h0, r0⟩ := trodAll_cons hA
  obtain ⟨v1, vs1, d1, ds1, p1, q1, rfl, rfl, rfl, h1, r1⟩ := trodAll_cons r0
  obtain ⟨rfl, rfl, rfl⟩ := trodAll_nil r1
  obtain rfl : args = #[v0, v1] := by cases args; simp_all
  obtain ⟨rfl, rfl⟩ := trodVars_none hV
  have k0 := h0
  have lt0 : ∀ x ∈ p0, x.block < W.heap.size := by obtain ⟨m, hm⟩ := k0; exact DataW.trod_lt m _ _ _ hm
  obtain ⟨m0, a0, c0, z0, rfl, w0, n0⟩ := rcvo.open_receiver (hval 0 65 v0 rfl rfl) h0
  obtain ⟨a1, rfl, rfl, rfl, w1⟩ := open_int Try.underlying3 (hval 1 3 v1 rfl rfl) h1
  clear hA0 hval0
  refine (walk m0 a0 c0 z0 a1 W w0 n0 w1).mono fun e W' ⟨he, bel⟩ => ?_
  subst he
  exact ⟨_, rfl, _, _, _, [], _, [], hW', trodAll_mk1 (shut_bool Try.underlying4 _), (trodAll_cons_mk (Below.trod laidOut (by kernel_rfl) (of_decide_eq_true (by kernel_rfl)) k0 bel lt0) (trodAll_cons_mk (shut_int Try.underlying3 w1) trodAll_mk0)), rfl, bel.frame _, fun h => by cases h⟩

theorem over : Rows.fnExactPositionNowRow.holds Try.pinned (OpenSpec.ofChange Rows.fnExactPositionNowSpec) :=
  OpenClaim.holds_of_wide 8 Try.f8 rfl rfl rfl rfl rfl rfl rfl ⟨rfl, rfl, rfl, rfl, rfl⟩ rfl rfl rfl rfl rfl (by kernel_rfl) Try.func8 (by kernel_rfl)
    (of_decide_eq_true (by kernel_rfl)) (by unfold Func.isWrapper; first | (rw [if_pos (by decide +kernel)]; kernel_rfl) | (rw [if_neg (by decide +kernel)]; exact ⟨rfl, rfl⟩))
    (fun os started H enc _ => lifted os started H enc)

theorem proved : Rows.FnExactPositionNowSaid :=
  over
#print axioms proved
end Go.Proofs.Ytdeghpihcddlgaa.fnExactPositionNow
