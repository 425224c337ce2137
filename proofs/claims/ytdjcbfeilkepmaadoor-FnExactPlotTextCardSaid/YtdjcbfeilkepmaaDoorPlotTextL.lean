/- For every plot the law FnExactPlotText returns true: impl.PlotText and spec.PlotText return the same text and true, or both an empty one and false; the argument is left as it was. The card ties the three tables of strconv and math/bits to the program. No condition of mine. -/
import Derived.Test.YtdjcbfeilkepmaaDoorPltV
import Derived.Test.YtdjcbfeilkepmaaDoorCards
import Derived.Test.YtdjcbfeilkepmaaDoorTie
import Derived.Test.YtdjcbfeilkepmaaDoorPtxT
import Derived.Stop.LaidErr
import Derived.Deep.DeepHandedRow
import Derived.Lib.LaidTab
import Derived.OpenVars
import Derived.Test.YtdjcbfeilkepmaaDoorPltZ
import Derived.Deep.RegionHeld3
import Derived.Test.YtdjcbfeilkepmaaDoorRows
import Derived.Test.YtdjcbfeilkepmaaDoorIntC
import Derived.Test.YtdjcbfeilkepmaaDoorCode
import Derived.WalkKit
import Derived.ProofKit
import Derived.OpenShut
import Derived.ShutString
import Derived.ChangeOld
import Derived.Below
import Derived.Lib.SmallJoins
import Derived.Lib.QuietBelow
import Derived.Deep.CutRange
namespace Go.Proofs.YtdjcbfeilkepmaaDoor.fnExactPlotText
open Go.ChangeShapes Go.WideShapes Go.ChangeAt Go.RowKit Go.Joins Go.Proofs.YtdjcbfeilkepmaaDoor.ats Go.Proofs.YtdjcbfeilkepmaaDoor.ints Go.Proofs.YtdjcbfeilkepmaaDoor.lst Go.Proofs.YtdjcbfeilkepmaaDoor.intc Go.Proofs.YtdjcbfeilkepmaaDoor.pltm Go.Proofs.YtdjcbfeilkepmaaDoor.pltv

set_option maxRecDepth 100000 in
set_option maxHeartbeats 2000000 in
theorem walk (s t x y : Int) (A : Option Addr) (n c : Nat) (zs : List Int) (w : World) (h1 : RdI w w.heap.size A n zs) (hl : n ≤ maxLen) (ht : Lib.TabIs Tryd.prog w "internal/strconv.uint64pow10" .u64 Lib.pow10Tab) :
    Calls Tryd.prog 4 #[.agg #[.int .i64 s, .int .i64 t, .int .i64 x, .int .i64 y, .slice A n c]] w fun e w' => e = .returned (.bool true) ∧ Below w.heap.size w w' := by
  have Z := fun w => szPlot s t x y A n c w hl
  have B0 := Lib.hid (newS 50 #[.int .i64 s, .int .i64 t, .int .i64 x, .int .i64 y, .slice A n c] w)
  by_cases hn : n ≤ 1048576
  · rw [if_pos hn] at Z
    have Z := Lib.hid Z
    have T := Lib.hid (fun (W : World) (hb : Below w.heap.size w W) => toPlot s t x y zs A n c W hn (h1.next hb))
    have ES := Lib.hid (fun (W : World) (g : Nat) (h : RdI W W.heap.size (some ⟨g, 0, none⟩) n zs) => ptxt.plotTextS s t x y zs (some ⟨g, 0, none⟩) n n W (by omega) h)
    have EI := Lib.hid (fun (W : World) (hb : Below w.heap.size w W) (g : Nat) (h : RdI W W.heap.size (some ⟨g, 0, none⟩) n zs) => ptxt.plotTextI s t x y zs (some ⟨g, 0, none⟩) n n W (by omega) h (fmt.tab_on ht hb))
    have EQ := Lib.hid (fun (W : World) (g g' : Nat) (h : RdI W W.heap.size (some ⟨g, 0, none⟩) n zs) (h' : RdI W W.heap.size (some ⟨g', 0, none⟩) n zs) => eqPlot s t x y zs (some ⟨g, 0, none⟩) (some ⟨g', 0, none⟩) n n n W (by omega) h h')
    have HZL := Lib.hid h1.1
    have d : decide ((1048576 : Int) - (n : Int) < 0) = false := decide_eq_false (by omega)
    clear h1 ht
    generalize (1048576 : Int) - (n : Int) = v at *
    generalize plB s t x y zs n = p at *
    generalize ptx.ptV s t x y zs n = R at *
    go_enter Tryd.func4, Tryd.ntmps4
    go_upto_region 2 with fail
    generalize w.alloc (.cells #[.int .i64 s, .int .i64 t, .int .i64 x, .int .i64 y, .slice A n c] 50) = W0 at *
    have a0 : W0.cell? ⟨w.heap.size, 0, none⟩ = some (.int .i64 s) := B0.out.cell 0
    have a1 : W0.cell? ⟨w.heap.size, 1, none⟩ = some (.int .i64 t) := B0.out.cell 1
    have a2 : W0.cell? ⟨w.heap.size, 2, none⟩ = some (.int .i64 x) := B0.out.cell 2
    have a3 : W0.cell? ⟨w.heap.size, 3, none⟩ = some (.int .i64 y) := B0.out.cell 3
    have a4 : W0.cell? ⟨w.heap.size, 4, none⟩ = some (.slice A n c) := B0.out.cell 4
    go_wp2_with fail
    refine (Z.out _).mono ?_
    rintro e V1 ⟨rfl, hb⟩
    have B1 := Lib.hid (B0.out.old hb)
    clear a0 a1 a2 a3 a4 hb B0
    have a0 : V1.cell? ⟨w.heap.size, 0, none⟩ = some (.int .i64 s) := B1.out.cell 0
    have a1 : V1.cell? ⟨w.heap.size, 1, none⟩ = some (.int .i64 t) := B1.out.cell 1
    have a2 : V1.cell? ⟨w.heap.size, 2, none⟩ = some (.int .i64 x) := B1.out.cell 2
    have a3 : V1.cell? ⟨w.heap.size, 3, none⟩ = some (.int .i64 y) := B1.out.cell 3
    have a4 : V1.cell? ⟨w.heap.size, 4, none⟩ = some (.slice A n c) := B1.out.cell 4
    go_wp2_with fail
    refine (T.out V1 B1.out.1).mono ?_
    rintro e V2 ⟨g1, rfl, ho, hb⟩
    have B2 := Lib.hid (B1.out.old hb)
    have R2 := Lib.hid (rd_of_own ho HZL.out)
    clear a0 a1 a2 a3 a4 hb ho B1
    go_wp2_with fail
    refine (ES.out V2 g1 R2.out).mono ?_
    rintro e V3 ⟨rfl, hb⟩
    have B3 := Lib.hid (B2.out.old hb)
    clear hb B2 R2
    have a0 : V3.cell? ⟨w.heap.size, 0, none⟩ = some (.int .i64 s) := B3.out.cell 0
    have a1 : V3.cell? ⟨w.heap.size, 1, none⟩ = some (.int .i64 t) := B3.out.cell 1
    have a2 : V3.cell? ⟨w.heap.size, 2, none⟩ = some (.int .i64 x) := B3.out.cell 2
    have a3 : V3.cell? ⟨w.heap.size, 3, none⟩ = some (.int .i64 y) := B3.out.cell 3
    have a4 : V3.cell? ⟨w.heap.size, 4, none⟩ = some (.slice A n c) := B3.out.cell 4
    go_wp2_with fail
    refine (T.out V3 B3.out.1).mono ?_
    rintro e V4 ⟨g2, rfl, ho, hb⟩
    have B4 := Lib.hid (B3.out.old hb)
    have R4 := Lib.hid (rd_of_own ho HZL.out)
    clear a0 a1 a2 a3 a4 hb ho B3
    go_upto_region 7 with fail
    have X5 := Lib.hid (newS 28 #[.int .i64 s, .int .i64 t, .int .i64 x, .int .i64 y, .slice (some ⟨g2, 0, none⟩) n n] V4)
    have B5 := Lib.hid (B4.out.old X5.out.1)
    have R5 := Lib.hid (R4.out.next X5.out.1)
    generalize V4.alloc (.cells #[.int .i64 s, .int .i64 t, .int .i64 x, .int .i64 y, .slice (some ⟨g2, 0, none⟩) n n] 28) = V5 at *
    have c0 : V5.cell? ⟨V4.heap.size, 0, none⟩ = some (.int .i64 s) := X5.out.cell 0
    have c1 : V5.cell? ⟨V4.heap.size, 1, none⟩ = some (.int .i64 t) := X5.out.cell 1
    have c2 : V5.cell? ⟨V4.heap.size, 2, none⟩ = some (.int .i64 x) := X5.out.cell 2
    have c3 : V5.cell? ⟨V4.heap.size, 3, none⟩ = some (.int .i64 y) := X5.out.cell 3
    have c4 : V5.cell? ⟨V4.heap.size, 4, none⟩ = some (.slice (some ⟨g2, 0, none⟩) n n) := X5.out.cell 4
    go_wp2_with fail
    refine (EI.out V5 B5.out.1 g2 R5.out).mono ?_
    rintro e V6 ⟨rfl, hb⟩
    have X6 := Lib.hid (X5.out.old hb)
    have B6 := Lib.hid (B5.out.old hb)
    have R6 := Lib.hid (R5.out.next hb)
    clear c0 c1 c2 c3 c4 hb X5 B5 R5 R4
    have ne : (p != p) = false := by simp
    have ne2 : (!(R.toList == R.toList)) = false := by simp
    go_upto_region 10 with fail
    have CS := Lib.hid (show ∀ WZ : World, Below V6.heap.size V6 WZ → World.cell? WZ ⟨w.heap.size, 0, none⟩ = some (.int .i64 s) ∧ World.cell? WZ ⟨w.heap.size, 1, none⟩ = some (.int .i64 t) ∧ World.cell? WZ ⟨w.heap.size, 2, none⟩ = some (.int .i64 x) ∧ World.cell? WZ ⟨w.heap.size, 3, none⟩ = some (.int .i64 y) ∧ World.cell? WZ ⟨w.heap.size, 4, none⟩ = some (.slice A n c) ∧ World.cell? WZ ⟨V4.heap.size, 0, none⟩ = some (.int .i64 s) ∧ World.cell? WZ ⟨V4.heap.size, 1, none⟩ = some (.int .i64 t) ∧ World.cell? WZ ⟨V4.heap.size, 2, none⟩ = some (.int .i64 x) ∧ World.cell? WZ ⟨V4.heap.size, 3, none⟩ = some (.int .i64 y) ∧ World.cell? WZ ⟨V4.heap.size, 4, none⟩ = some (.slice (some ⟨g2, 0, none⟩) n n) from fun WZ hz => ⟨(B6.out.old hz).cell 0, (B6.out.old hz).cell 1, (B6.out.old hz).cell 2, (B6.out.old hz).cell 3, (B6.out.old hz).cell 4, (X6.out.old hz).cell 0, (X6.out.old hz).cell 1, (X6.out.old hz).cell 2, (X6.out.old hz).cell 3, (X6.out.old hz).cell 4⟩)
    have T6 := Lib.hid (fun (W : World) (hb : Below V6.heap.size V6 W) => T.out W (B6.out.1.trans (hb.mono B6.out.1.size)))
    have E6 := Lib.hid (fun (W : World) (hb : Below V6.heap.size V6 W) g' h' => EQ.out W g2 g' (R6.out.next hb) h')
    go_region_held3 (fun w' => World.cell? w' ⟨w.heap.size, 0, none⟩ = some (.int .i64 s) ∧ World.cell? w' ⟨w.heap.size, 1, none⟩ = some (.int .i64 t) ∧ World.cell? w' ⟨w.heap.size, 2, none⟩ = some (.int .i64 x) ∧ World.cell? w' ⟨w.heap.size, 3, none⟩ = some (.int .i64 y) ∧ World.cell? w' ⟨w.heap.size, 4, none⟩ = some (.slice A n c) ∧ World.cell? w' ⟨V4.heap.size, 0, none⟩ = some (.int .i64 s) ∧ World.cell? w' ⟨V4.heap.size, 1, none⟩ = some (.int .i64 t) ∧ World.cell? w' ⟨V4.heap.size, 2, none⟩ = some (.int .i64 x) ∧ World.cell? w' ⟨V4.heap.size, 3, none⟩ = some (.int .i64 y) ∧ World.cell? w' ⟨V4.heap.size, 4, none⟩ = some (.slice (some ⟨g2, 0, none⟩) n n)) (first
      | with_reducible exact CS.out _ (Below.refl V6.heap.size V6).drew
      | with_reducible exact CS.out _ (by assumption)
      | go_keep) (first
      | (go_at_call 27; (with_reducible refine (T6.out _ (by first | exact (Below.refl V6.heap.size V6).drew | assumption)).mono ?_); rintro e V7 ⟨g3, rfl, ho7, hb7⟩
         have hbl := posx.bl_next (V := V6) (by first | exact (Below.refl V6.heap.size V6).drew | assumption) hb7
         have R7 := rd_of_own ho7 HZL.out
         clear hb7 ho7)
      | (go_at_call 28; (with_reducible refine (E6.out _ hbl g3 R7).mono ?_); rintro e V8 ⟨rfl, hb8⟩
         have hbl8 := posx.bl_next (V := V6) hbl hb8
         clear hb8))
    all_goals (
      have HE := Lib.hid (B6.out.1.trans (hbl8.mono B6.out.1.size))
      clear hbl8 hbl R7 CS
      go_wp2_with fail
      go_ret
      exact ⟨rfl, HE.out⟩)
  · rw [if_neg hn] at Z
    have Z := Lib.hid Z
    clear h1 hl hn ht
    go_enter Tryd.func4, Tryd.ntmps4
    go_upto_region 2 with fail
    generalize w.alloc (.cells #[.int .i64 s, .int .i64 t, .int .i64 x, .int .i64 y, .slice A n c] 50) = W0 at *
    have a0 : W0.cell? ⟨w.heap.size, 0, none⟩ = some (.int .i64 s) := B0.out.cell 0
    have a1 : W0.cell? ⟨w.heap.size, 1, none⟩ = some (.int .i64 t) := B0.out.cell 1
    have a2 : W0.cell? ⟨w.heap.size, 2, none⟩ = some (.int .i64 x) := B0.out.cell 2
    have a3 : W0.cell? ⟨w.heap.size, 3, none⟩ = some (.int .i64 y) := B0.out.cell 3
    have a4 : W0.cell? ⟨w.heap.size, 4, none⟩ = some (.slice A n c) := B0.out.cell 4
    go_wp2_with fail
    refine (Z.out _).mono ?_
    rintro e V1 ⟨rfl, hb⟩
    have B1 := Lib.hid (B0.out.old hb)
    clear a0 a1 a2 a3 a4 hb B0
    go_wp2_with fail
    go_ret
    exact ⟨rfl, B1.out.1⟩


theorem own : ownKnob Tryd.prog.godebug = none := by kernel_rfl
theorem laidOut : laidOutB Tryd.prog = true := by kernel_rfl

theorem gTab : Tryd.prog.globalNamed "internal/strconv.uint64pow10" = some 1 := by kernel_rfl
theorem gTabType : (Tryd.prog.globals[1]?).map (·.type) = some 117 := by kernel_rfl
theorem cellsTab : Tryd.prog.cellsOf 117 = 20 := by kernel_rfl
theorem cellsU : Tryd.prog.cellsOf 62 = 1 := by kernel_rfl
theorem table {W : World} (h : laidMet Tryd.prog Rows.fnExactPlotTextRow.laid W) : Lib.TabIs Tryd.prog W "internal/strconv.uint64pow10" .u64 Lib.pow10Tab :=
  Lib.tabIs_of_head (rest := []) gTab gTabType Tryd.underlying117 Tryd.underlying62 cellsU cellsTab (laidMet.tail (laidMet.tail h))


set_option maxRecDepth 100000 in
theorem contract (H : Type) (enc : TypeId × Value → H) (W : World) (base : Nat) (args : Array Value) (ds gs : List (DataW H)) (before : List MemPlace)
    (hval : ∀ (j : Nat) t v, Tryd.f4.params[j]? = some t → args[j]? = some v → Value.okWide Tryd.prog W .any base t v)
    (hW : DataW.Whole enc Tryd.prog Tryd.f4.params.toList Rows.fnExactPlotTextSpec.vars false W args.toList ds gs before) (hL : laidMetH Tryd.prog Rows.fnExactPlotTextRow.laid W) :
    Calls Tryd.prog 4 args W fun e W' => ∃ v, e = .returned v ∧ Rows.fnExactPlotTextSpec.post enc Tryd.prog Tryd.f4 false true false false W args v W' := by
  have hW' := hW
  obtain ⟨p, q, hA0, hV, rfl, hfz, hnd⟩ := hW
  have hA : DataW.TrodAll enc Tryd.prog W 0 (fun _ => true) true Tryd.f4.params.toList args.toList ds p := hA0
  rw [Tryd.params4] at hA hval
  obtain ⟨v0, vs0, d0, ds0, p0, q0, hargs, rfl, rfl, h0, r0⟩ := trodAll_cons hA
  obtain ⟨rfl, rfl, rfl⟩ := trodAll_nil r0
  obtain rfl : args = #[v0] := by cases args; simp_all
  obtain ⟨rfl, rfl⟩ := trodVars_none hV
  have k0 := h0
  have lt0 : ∀ x ∈ p0, x.block < W.heap.size := by obtain ⟨m, hm⟩ := k0; exact DataW.trod_lt m _ _ _ hm
  obtain ⟨s0, t0, x0, y0, a0, m0, c0, z0, rfl, w0, n0⟩ := pltz.open_plot (hval 0 50 v0 rfl rfl) h0
  clear hA0
  refine (walk s0 t0 x0 y0 a0 m0 c0 z0 W w0 n0 (table hL)).mono fun e W' ⟨he, bel⟩ => ?_
  subst he
  exact ⟨_, rfl, _, _, _, [], _, [], hW', trodAll_mk1 (shut_bool Tryd.underlying4 _), (trodAll_cons_mk (Below.trod laidOut (by kernel_rfl) (of_decide_eq_true (by kernel_rfl)) k0 bel lt0) trodAll_mk0), rfl, bel.frame _, fun h => by cases h⟩

noncomputable def laidWorld (os : Os) : World :=
  { World.holding Tryd.prog os ⟨#[], #[], []⟩ with heap := ((((World.holding Tryd.prog os ⟨#[], #[], []⟩).heap.modify 1 fun
      | .cells _ t frozen => .cells #[.int .u64 1, .int .u64 10, .int .u64 100, .int .u64 1000, .int .u64 10000, .int .u64 100000, .int .u64 1000000, .int .u64 10000000, .int .u64 100000000, .int .u64 1000000000, .int .u64 10000000000, .int .u64 100000000000, .int .u64 1000000000000, .int .u64 10000000000000, .int .u64 100000000000000, .int .u64 1000000000000000, .int .u64 10000000000000000, .int .u64 100000000000000000, .int .u64 1000000000000000000, .int .u64 10000000000000000000] t frozen
      | o => o).modify 2 fun
      | .cells _ t frozen => .cells #[.int .u8 0, .int .u8 1, .int .u8 28, .int .u8 2, .int .u8 29, .int .u8 14, .int .u8 24, .int .u8 3, .int .u8 30, .int .u8 22, .int .u8 20, .int .u8 15, .int .u8 25, .int .u8 17, .int .u8 4, .int .u8 8, .int .u8 31, .int .u8 27, .int .u8 13, .int .u8 23, .int .u8 21, .int .u8 19, .int .u8 16, .int .u8 7, .int .u8 26, .int .u8 12, .int .u8 18, .int .u8 6, .int .u8 11, .int .u8 5, .int .u8 10, .int .u8 9] t frozen
      | o => o).modify 3 fun
      | .cells _ t frozen => .cells #[.int .u8 0, .int .u8 1, .int .u8 56, .int .u8 2, .int .u8 57, .int .u8 49, .int .u8 28, .int .u8 3, .int .u8 61, .int .u8 58, .int .u8 42, .int .u8 50, .int .u8 38, .int .u8 29, .int .u8 17, .int .u8 4, .int .u8 62, .int .u8 47, .int .u8 59, .int .u8 36, .int .u8 45, .int .u8 43, .int .u8 51, .int .u8 22, .int .u8 53, .int .u8 39, .int .u8 33, .int .u8 30, .int .u8 24, .int .u8 18, .int .u8 12, .int .u8 5, .int .u8 63, .int .u8 55, .int .u8 48, .int .u8 27, .int .u8 60, .int .u8 41, .int .u8 37, .int .u8 16, .int .u8 46, .int .u8 35, .int .u8 44, .int .u8 21, .int .u8 52, .int .u8 32, .int .u8 23, .int .u8 11, .int .u8 54, .int .u8 26, .int .u8 40, .int .u8 15, .int .u8 34, .int .u8 20, .int .u8 31, .int .u8 10, .int .u8 25, .int .u8 14, .int .u8 19, .int .u8 9, .int .u8 13, .int .u8 8, .int .u8 7, .int .u8 6] t frozen
      | o => o) }
theorem laid_met (os : Os) : laidMet Tryd.prog Rows.fnExactPlotTextRow.laid ((laidWorld os).forCall (fun _ _ => 0) ⟨#[], #[.agg #[.int .i64 0, .int .i64 0, .int .i64 0, .int .i64 0, .slice none 0 0]], []⟩).memory :=
  laidMet_of_run' 8 (by kernel_rfl) (by kernel_rfl)
theorem reads (os : Os) {H : Type} (enc : TypeId × Value → H) : ∃ places, DataW.whole enc Tryd.prog ((laidWorld os).forCall (fun _ _ => 0) ⟨#[], #[.agg #[.int .i64 0, .int .i64 0, .int .i64 0, .int .i64 0, .slice none 0 0]], []⟩).memory Tryd.f4.params.toList Rows.fnExactPlotTextSpec.vars false (#[.agg #[.int .i64 0, .int .i64 0, .int .i64 0, .int .i64 0, .slice none 0 0]] : Array Value).toList 8 = some ([.agg [.lit (.int .i64 0), .lit (.int .i64 0), .agg [.lit (.int .i64 0), .lit (.int .i64 0)], .nil]], [], places) :=
  ⟨[], by kernel_rfl⟩

set_option maxRecDepth 100000 in
theorem lifted (os : Os) (started : os.Started) (H : Type) (enc : TypeId × Value → H) (F : Stop.Interp) :
    ReturnsInHanded {} Tryd.checked os 4 .any ((OpenSpec.ofChange Rows.fnExactPlotTextSpec).preRow enc Tryd.prog Tryd.f4 Rows.fnExactPlotTextRow.domain false Rows.fnExactPlotTextRow.laid) (((OpenSpec.ofChange Rows.fnExactPlotTextSpec).at F).post enc Tryd.prog Tryd.f4 false true false false) := by
  obtain ⟨places, hx⟩ := reads os enc
  refine returnsInHanded_of_row (C := Tryd.checked) (s := OpenSpec.ofChange Rows.fnExactPlotTextSpec) own started (by kernel_rfl) Tryd.func4
    (witness_row_at (enc := enc) (C := Tryd.checked) false (laidWorld os) #[.agg #[.int .i64 0, .int .i64 0, .int .i64 0, .int .i64 0, .slice none 0 0]] rfl (by kernel_rfl) (by kernel_rfl) (by kernel_rfl)
      (OpenSpec.preRow_of_cond 8 hx (by kernel_rfl) (fun k hk => by cases hk) (by kernel_rfl) (laid_met os))) ?_
  intro W base args ds gs before hval hW _ _ _ hL _ _
  exact contract H enc W base args ds gs before hval hW hL

theorem said : Rows.FnExactPlotTextSaid :=
  OpenClaim.holds_of_cond 4 Tryd.f4 rfl rfl rfl rfl rfl rfl rfl ⟨rfl, rfl, rfl, rfl, rfl⟩ rfl rfl rfl rfl rfl (by kernel_rfl) Tryd.func4 (by kernel_rfl)
    (of_decide_eq_true (by kernel_rfl)) (by unfold Func.isWrapper; first | (rw [if_pos (by decide +kernel)]; kernel_rfl) | (rw [if_neg (by decide +kernel)]; exact ⟨rfl, rfl⟩))
    (fun os started H enc _ F => by rw [OpenClaim.pre_eq_preRow]; exact lifted os started H enc F)

theorem plain (f : FuncId) (fn : Func) (hf : Tryd.pinned.checked.prog.funcNamed "loop.example/g00875/laws.FnExactPlotText" = some f) (hfn : Tryd.pinned.checked.prog.funcs[f]? = some fn) :
    false = Tryd.pinned.checked.prog.looks [] ∧ ∀ (j : Nat) t, fn.params[j]? = some t → Tryd.pinned.checked.prog.wantsStandIn t = false := by
  obtain rfl : f = 4 := Option.some.inj ((show Tryd.prog.funcNamed "loop.example/g00875/laws.FnExactPlotText" = some 4 by kernel_rfl).symm.trans hf) |>.symm
  obtain rfl : fn = Tryd.f4 := (Option.some.inj (Tryd.func4.symm.trans hfn)).symm
  refine ⟨by kernel_rfl, fun j t ht => ?_⟩
  rw [Tryd.params4] at ht
  have hm := Array.mem_of_getElem? ht
  simp at hm
  obtain rfl := hm
  exact (show Tryd.prog.wantsStandIn 50 = false by kernel_rfl)

theorem proved : Rows.FnExactPlotTextCardSaid :=
  Claim7.holds_tied_plain_at .later [] _ _ _ _ said (fun _ h => by cases h) (by kernel_rfl) (fun _ h => by cases h) fnExactPlotText_row_tie rfl ⟨rfl, rfl⟩ (by kernel_rfl) rfl plain (by kernel_rfl)
#print axioms proved
end Go.Proofs.YtdjcbfeilkepmaaDoor.fnExactPlotText
