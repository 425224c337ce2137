/- For every plot the law FnExactIsValidPlot returns true: impl.IsValidPlot and spec.IsValidPlot both tell whether its values are valid; the argument is left as it was. No condition. -/
import Derived.Test.YtcfkkmlmjekhiaaPltV
import Derived.Test.YtcfkkmlmjekhiaaPltW
import Derived.Test.YtcfkkmlmjekhiaaPltU
import Derived.Test.YtcfkkmlmjekhiaaPltZ
import Derived.Deep.RegionHeld3
import Derived.Test.YtcfkkmlmjekhiaaRows
import Derived.Test.YtcfkkmlmjekhiaaIntC
import Derived.Test.YtcfkkmlmjekhiaaCode
import Derived.WalkKit
import Derived.ProofKit
import Derived.OpenShut
import Derived.ShutString
import Derived.ChangeOld
import Derived.Below
import Derived.Lib.SmallJoins
import Derived.Lib.QuietBelow
import Derived.Deep.CutRange
namespace Go.Proofs.Ytcfkkmlmjekhiaa.fnExactIsValidPlot
open Go.ChangeShapes Go.WideShapes Go.ChangeAt Go.RowKit Go.Joins Go.Proofs.Ytcfkkmlmjekhiaa.ats Go.Proofs.Ytcfkkmlmjekhiaa.ints Go.Proofs.Ytcfkkmlmjekhiaa.lst Go.Proofs.Ytcfkkmlmjekhiaa.intc Go.Proofs.Ytcfkkmlmjekhiaa.pltm Go.Proofs.Ytcfkkmlmjekhiaa.pltv

set_option maxRecDepth 100000 in
set_option maxHeartbeats 2000000 in
theorem walk (s t x y : Int) (A : Option Addr) (n c : Nat) (zs : List Int) (w : World) (h1 : RdI w w.heap.size A n zs) (hl : n ≤ maxLen) :
    Calls Try.prog 7 #[.agg #[.int .i64 s, .int .i64 t, .int .i64 x, .int .i64 y, .slice A n c]] w fun e w' => e = .returned (.bool true) ∧ Below w.heap.size w w' := by
  have Z := fun w => szPlot s t x y A n c w hl
  have B0 := Lib.hid (newS 59 #[.int .i64 s, .int .i64 t, .int .i64 x, .int .i64 y, .slice A n c] w)
  by_cases hn : n ≤ 1048576
  · rw [if_pos hn] at Z
    have Z := Lib.hid Z
    have T := Lib.hid (fun (W : World) (hb : Below w.heap.size w W) => toPlot s t x y zs A n c W hn (h1.next hb))
    have ES := Lib.hid (fun (W : World) (g : Nat) (h : RdI W W.heap.size (some ⟨g, 0, none⟩) n zs) => pltw.isValidPlot s t x y zs (some ⟨g, 0, none⟩) n n W (by omega) h)
    have EI := Lib.hid (fun (W : World) (g : Nat) (h : RdI W W.heap.size (some ⟨g, 0, none⟩) n zs) => pltu.isValidPlot s t x y zs (some ⟨g, 0, none⟩) n n W (by omega) h)
    have EQ := Lib.hid (fun (W : World) (g g' : Nat) (h : RdI W W.heap.size (some ⟨g, 0, none⟩) n zs) (h' : RdI W W.heap.size (some ⟨g', 0, none⟩) n zs) => eqPlot s t x y zs (some ⟨g, 0, none⟩) (some ⟨g', 0, none⟩) n n n W (by omega) h h')
    have HZL := Lib.hid h1.1
    have d : decide ((1048576 : Int) - (n : Int) < 0) = false := decide_eq_false (by omega)
    clear h1
    generalize (1048576 : Int) - (n : Int) = v at *
    generalize plB s t x y zs n = p at *
    go_enter Try.func7, Try.ntmps7
    go_upto_region 2 with fail
    generalize w.alloc (.cells #[.int .i64 s, .int .i64 t, .int .i64 x, .int .i64 y, .slice A n c] 59) = W0 at *
    have a0 : W0.cell? ⟨w.heap.size, 0, none⟩ = some (.int .i64 s) := B0.out.cell 0
    have a1 : W0.cell? ⟨w.heap.size, 1, none⟩ = some (.int .i64 t) := B0.out.cell 1
    have a2 : W0.cell? ⟨w.heap.size, 2, none⟩ = some (.int .i64 x) := B0.out.cell 2
    have a3 : W0.cell? ⟨w.heap.size, 3, none⟩ = some (.int .i64 y) := B0.out.cell 3
    have a4 : W0.cell? ⟨w.heap.size, 4, none⟩ = some (.slice A n c) := B0.out.cell 4
    go_wp2_with fail
    refine (Z.out _).mono ?_
    rintro e V1 ⟨rfl, hb⟩
    have B1 := Lib.hid (B0.out.old hb)
    clear a0 a1 a2 a3 a4 hb B0
    have a0 : V1.cell? ⟨w.heap.size, 0, none⟩ = some (.int .i64 s) := B1.out.cell 0
    have a1 : V1.cell? ⟨w.heap.size, 1, none⟩ = some (.int .i64 t) := B1.out.cell 1
    have a2 : V1.cell? ⟨w.heap.size, 2, none⟩ = some (.int .i64 x) := B1.out.cell 2
    have a3 : V1.cell? ⟨w.heap.size, 3, none⟩ = some (.int .i64 y) := B1.out.cell 3
    have a4 : V1.cell? ⟨w.heap.size, 4, none⟩ = some (.slice A n c) := B1.out.cell 4
    go_wp2_with fail
    refine (T.out V1 B1.out.1).mono ?_
    rintro e V2 ⟨g1, rfl, ho, hb⟩
    have B2 := Lib.hid (B1.out.old hb)
    have R2 := Lib.hid (rd_of_own ho HZL.out)
    clear a0 a1 a2 a3 a4 hb ho B1
    go_wp2_with fail
    refine (ES.out V2 g1 R2.out).mono ?_
    rintro e V3 ⟨rfl, hb⟩
    have B3 := Lib.hid (B2.out.old hb)
    clear hb B2 R2
    have a0 : V3.cell? ⟨w.heap.size, 0, none⟩ = some (.int .i64 s) := B3.out.cell 0
    have a1 : V3.cell? ⟨w.heap.size, 1, none⟩ = some (.int .i64 t) := B3.out.cell 1
    have a2 : V3.cell? ⟨w.heap.size, 2, none⟩ = some (.int .i64 x) := B3.out.cell 2
    have a3 : V3.cell? ⟨w.heap.size, 3, none⟩ = some (.int .i64 y) := B3.out.cell 3
    have a4 : V3.cell? ⟨w.heap.size, 4, none⟩ = some (.slice A n c) := B3.out.cell 4
    go_wp2_with fail
    refine (T.out V3 B3.out.1).mono ?_
    rintro e V4 ⟨g2, rfl, ho, hb⟩
    have B4 := Lib.hid (B3.out.old hb)
    have R4 := Lib.hid (rd_of_own ho HZL.out)
    clear a0 a1 a2 a3 a4 hb ho B3
    go_upto_region 7 with fail
    have X5 := Lib.hid (newS 38 #[.int .i64 s, .int .i64 t, .int .i64 x, .int .i64 y, .slice (some ⟨g2, 0, none⟩) n n] V4)
    have B5 := Lib.hid (B4.out.old X5.out.1)
    have R5 := Lib.hid (R4.out.next X5.out.1)
    generalize V4.alloc (.cells #[.int .i64 s, .int .i64 t, .int .i64 x, .int .i64 y, .slice (some ⟨g2, 0, none⟩) n n] 38) = V5 at *
    have c0 : V5.cell? ⟨V4.heap.size, 0, none⟩ = some (.int .i64 s) := X5.out.cell 0
    have c1 : V5.cell? ⟨V4.heap.size, 1, none⟩ = some (.int .i64 t) := X5.out.cell 1
    have c2 : V5.cell? ⟨V4.heap.size, 2, none⟩ = some (.int .i64 x) := X5.out.cell 2
    have c3 : V5.cell? ⟨V4.heap.size, 3, none⟩ = some (.int .i64 y) := X5.out.cell 3
    have c4 : V5.cell? ⟨V4.heap.size, 4, none⟩ = some (.slice (some ⟨g2, 0, none⟩) n n) := X5.out.cell 4
    go_wp2_with fail
    refine (EI.out V5 g2 R5.out).mono ?_
    rintro e V6 ⟨rfl, hb⟩
    have X6 := Lib.hid (X5.out.old hb)
    have B6 := Lib.hid (B5.out.old hb)
    have R6 := Lib.hid (R5.out.next hb)
    clear c0 c1 c2 c3 c4 hb X5 B5 R5 R4
    have ne : (p != p) = false := by simp
    go_upto_region 10 with fail
    have CS := Lib.hid (show ∀ WZ : World, Below V6.heap.size V6 WZ → World.cell? WZ ⟨w.heap.size, 0, none⟩ = some (.int .i64 s) ∧ World.cell? WZ ⟨w.heap.size, 1, none⟩ = some (.int .i64 t) ∧ World.cell? WZ ⟨w.heap.size, 2, none⟩ = some (.int .i64 x) ∧ World.cell? WZ ⟨w.heap.size, 3, none⟩ = some (.int .i64 y) ∧ World.cell? WZ ⟨w.heap.size, 4, none⟩ = some (.slice A n c) ∧ World.cell? WZ ⟨V4.heap.size, 0, none⟩ = some (.int .i64 s) ∧ World.cell? WZ ⟨V4.heap.size, 1, none⟩ = some (.int .i64 t) ∧ World.cell? WZ ⟨V4.heap.size, 2, none⟩ = some (.int .i64 x) ∧ World.cell? WZ ⟨V4.heap.size, 3, none⟩ = some (.int .i64 y) ∧ World.cell? WZ ⟨V4.heap.size, 4, none⟩ = some (.slice (some ⟨g2, 0, none⟩) n n) from fun WZ hz => ⟨(B6.out.old hz).cell 0, (B6.out.old hz).cell 1, (B6.out.old hz).cell 2, (B6.out.old hz).cell 3, (B6.out.old hz).cell 4, (X6.out.old hz).cell 0, (X6.out.old hz).cell 1, (X6.out.old hz).cell 2, (X6.out.old hz).cell 3, (X6.out.old hz).cell 4⟩)
    have T6 := Lib.hid (fun (W : World) (hb : Below V6.heap.size V6 W) => T.out W (B6.out.1.trans (hb.mono B6.out.1.size)))
    have E6 := Lib.hid (fun (W : World) (hb : Below V6.heap.size V6 W) g' h' => EQ.out W g2 g' (R6.out.next hb) h')
    go_region_held3 (fun w' => World.cell? w' ⟨w.heap.size, 0, none⟩ = some (.int .i64 s) ∧ World.cell? w' ⟨w.heap.size, 1, none⟩ = some (.int .i64 t) ∧ World.cell? w' ⟨w.heap.size, 2, none⟩ = some (.int .i64 x) ∧ World.cell? w' ⟨w.heap.size, 3, none⟩ = some (.int .i64 y) ∧ World.cell? w' ⟨w.heap.size, 4, none⟩ = some (.slice A n c) ∧ World.cell? w' ⟨V4.heap.size, 0, none⟩ = some (.int .i64 s) ∧ World.cell? w' ⟨V4.heap.size, 1, none⟩ = some (.int .i64 t) ∧ World.cell? w' ⟨V4.heap.size, 2, none⟩ = some (.int .i64 x) ∧ World.cell? w' ⟨V4.heap.size, 3, none⟩ = some (.int .i64 y) ∧ World.cell? w' ⟨V4.heap.size, 4, none⟩ = some (.slice (some ⟨g2, 0, none⟩) n n)) (first
      | with_reducible exact CS.out _ (Below.refl V6.heap.size V6).drew
      | with_reducible exact CS.out _ (by assumption)
      | go_keep) (first
      | (go_at_call 37; (with_reducible refine (T6.out _ (by first | exact (Below.refl V6.heap.size V6).drew | assumption)).mono ?_); rintro e V7 ⟨g3, rfl, ho7, hb7⟩
         have hbl := posx.bl_next (V := V6) (by first | exact (Below.refl V6.heap.size V6).drew | assumption) hb7
         have R7 := rd_of_own ho7 HZL.out
         clear hb7 ho7)
      | (go_at_call 38; (with_reducible refine (E6.out _ hbl g3 R7).mono ?_); rintro e V8 ⟨rfl, hb8⟩
         have hbl8 := posx.bl_next (V := V6) hbl hb8
         clear hb8))
    all_goals (
      have HE := Lib.hid (B6.out.1.trans (hbl8.mono B6.out.1.size))
      clear hbl8 hbl R7 CS
      go_wp2_with fail
      go_ret
      exact ⟨rfl, HE.out⟩)
  · rw [if_neg hn] at Z
    have Z := Lib.hid Z
    clear h1 hl hn
    go_enter Try.func7, Try.ntmps7
    go_upto_region 2 with fail
    generalize w.alloc (.cells #[.int .i64 s, .int .i64 t, .int .i64 x, .int .i64 y, .slice A n c] 59) = W0 at *
    have a0 : W0.cell? ⟨w.heap.size, 0, none⟩ = some (.int .i64 s) := B0.out.cell 0
    have a1 : W0.cell? ⟨w.heap.size, 1, none⟩ = some (.int .i64 t) := B0.out.cell 1
    have a2 : W0.cell? ⟨w.heap.size, 2, none⟩ = some (.int .i64 x) := B0.out.cell 2
    have a3 : W0.cell? ⟨w.heap.size, 3, none⟩ = some (.int .i64 y) := B0.out.cell 3
    have a4 : W0.cell? ⟨w.heap.size, 4, none⟩ = some (.slice A n c) := B0.out.cell 4
    go_wp2_with fail
    refine (Z.out _).mono ?_
    rintro e V1 ⟨rfl, hb⟩
    have B1 := Lib.hid (B0.out.old hb)
    clear a0 a1 a2 a3 a4 hb B0
    go_wp2_with fail
    go_ret
    exact ⟨rfl, B1.out.1⟩


theorem own : ownKnob Try.prog.godebug = none := by kernel_rfl
theorem laidOut : laidOutB Try.prog = true := by kernel_rfl

set_option maxRecDepth 100000 in
theorem lifted (os : Os) (started : os.Started) (H : Type) (enc : TypeId × Value → H) :
    ReturnsInHanded {} Try.checked os 7 .any (Rows.fnExactIsValidPlotSpec.pre6 enc Try.prog Try.f7 Rows.fnExactIsValidPlotRow.domain false) (Rows.fnExactIsValidPlotSpec.post enc Try.prog Try.f7 false true false false) := by
  refine returnsInHanded_of_change (C := Try.checked) own started (by kernel_rfl) Try.func7
    (ChangeSpec.witness6 (enc := enc) (C := Try.checked) false ⟨#[], #[.agg #[.int .i64 0, .int .i64 0, .int .i64 0, .int .i64 0, .slice none 0 0]], []⟩ 8 (by kernel_rfl) (by kernel_rfl) (by kernel_rfl) (by kernel_rfl)) ?_
  intro W base args ds gs before hval0 hW hcnd _
  have hval : ∀ (j : Nat) t v, Try.f7.params[j]? = some t → args[j]? = some v → Value.okWide Try.prog W .any base t v := hval0
  have hW' := hW
  obtain ⟨p, q, hA0, hV, rfl, hfz, hnd⟩ := hW
  have hA : DataW.TrodAll enc Try.prog W 0 (fun _ => true) true Try.f7.params.toList args.toList ds p := hA0
  rw [Try.params7] at hA hval
  obtain ⟨v0, vs0, d0, ds0, p0, q0, hargs, rfl, rfl, h0, r0⟩ := trodAll_cons hA
  obtain ⟨rfl, rfl, rfl⟩ := trodAll_nil r0
  obtain rfl : args = #[v0] := by cases args; simp_all
  obtain ⟨rfl, rfl⟩ := trodVars_none hV
  have k0 := h0
  have lt0 : ∀ x ∈ p0, x.block < W.heap.size := by obtain ⟨m, hm⟩ := k0; exact DataW.trod_lt m _ _ _ hm
  obtain ⟨s0, t0, x0, y0, a0, m0, c0, z0, rfl, w0, n0⟩ := pltz.open_plot (hval 0 59 v0 rfl rfl) h0
  clear hA0 hval0
  refine (walk s0 t0 x0 y0 a0 m0 c0 z0 W w0 n0).mono fun e W' ⟨he, bel⟩ => ?_
  subst he
  exact ⟨_, rfl, _, _, _, [], _, [], hW', trodAll_mk1 (shut_bool Try.underlying4 _), (trodAll_cons_mk (Below.trod laidOut (by kernel_rfl) (of_decide_eq_true (by kernel_rfl)) k0 bel lt0) trodAll_mk0), rfl, bel.frame _, fun h => by cases h⟩

theorem over : Rows.fnExactIsValidPlotRow.holds Try.pinned (OpenSpec.ofChange Rows.fnExactIsValidPlotSpec) :=
  OpenClaim.holds_of_wide 7 Try.f7 rfl rfl rfl rfl rfl rfl rfl ⟨rfl, rfl, rfl, rfl, rfl⟩ rfl rfl rfl rfl rfl (by kernel_rfl) Try.func7 (by kernel_rfl)
    (of_decide_eq_true (by kernel_rfl)) (by unfold Func.isWrapper; first | (rw [if_pos (by decide +kernel)]; kernel_rfl) | (rw [if_neg (by decide +kernel)]; exact ⟨rfl, rfl⟩))
    (fun os started H enc _ => lifted os started H enc)

theorem proved : Rows.FnExactIsValidPlotSaid :=
  over
#print axioms proved
end Go.Proofs.Ytcfkkmlmjekhiaa.fnExactIsValidPlot
