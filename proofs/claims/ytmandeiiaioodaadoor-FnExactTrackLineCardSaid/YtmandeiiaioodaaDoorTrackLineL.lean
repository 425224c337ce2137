/- For every track the law FnExactTrackLine returns true: impl.TrackLine and spec.TrackLine return the same line and true, or both the empty string and false. The card ties the three tables of strconv and math/bits and impl's table of the States' words to the program. No condition of mine. -/
import Derived.Test.YtmandeiiaioodaaDoorRows
import Derived.Test.YtmandeiiaioodaaDoorCards
import Derived.Test.YtmandeiiaioodaaDoorTie
import Derived.Test.YtmandeiiaioodaaDoorTrkQ
import Derived.Test.YtmandeiiaioodaaDoorTrkE
import Derived.Test.YtmandeiiaioodaaDoorOpn
import Derived.Test.YtmandeiiaioodaaDoorPosX
import Derived.WalkKit
import Derived.ProofKit
import Derived.OpenShut
import Derived.ShutString
import Derived.ChangeOld
import Derived.Below
import Derived.Lib.SmallJoins
import Derived.Lib.QuietBelow
import Derived.Stop.LaidErr
import Derived.Deep.DeepHandedRow
import Derived.Lib.LaidTab
import Derived.OpenVars
import Derived.Deep.RegionHeld3
import Derived.Deep.CutRange
namespace Go.Proofs.YtmandeiiaioodaaDoor.fnExactTrackLine
open Go.ChangeShapes Go.WideShapes Go.ChangeAt Go.RowKit Go.Joins Go.Proofs.YtmandeiiaioodaaDoor.ats Go.Proofs.YtmandeiiaioodaaDoor.trk Go.Proofs.YtmandeiiaioodaaDoor.trkp
open Go.ChangeMaps (open_string shut_string)
set_option linter.unusedVariables false

theorem bool_ne_self (b : Bool) : (b != b) = false := by simp
theorem str_ne_self (x : ByteArray) : (!(x.toList == x.toList)) = false := by simp
theorem tab_of {W : World} (h : laidMetH Tryd.prog Rows.fnExactTrackLineRow.laid W) : trkp.Tab W := fun k hk =>
  (laid_.strIs_of_head (ss := words) (rest := []) gW gWT Tryd.underlying98 Tryd.underlying9 cellsS cellsW (laidMet.tail (laidMet.tail (laidMet.tail h)))).cell gW (word_at k hk)

set_option maxRecDepth 100000 in
set_option maxHeartbeats 4000000 in
theorem walk (i : Int) (s : Int) (x : Int) (y : Int) (h : Int) (l : Int) (w0 : (Lit.int .i64 i).wf = true) (w1 : (Lit.int .i64 s).wf = true) (w2 : (Lit.int .i64 x).wf = true) (w3 : (Lit.int .i64 y).wf = true) (w4 : (Lit.int .i64 h).wf = true) (w5 : (Lit.int .i64 l).wf = true) (w : World) (ht : fmt.Tab w) (hw : trkp.Tab w) :
    Calls Tryd.prog 7 #[.agg #[.int .i64 i, .int .i64 s, .int .i64 x, .int .i64 y, .int .i64 h, .int .i64 l]] w fun e w' => e = .returned (.bool true) ∧ Below w.heap.size w w' := by
  have hs := Lib.hid (fun w => trkq.trackLineS i s x y h l w)
  have hi := Lib.hid (fun (W : World) (hb : Below w.heap.size w W) => trkp.trackLineI i s x y h l W (fmt.tab_on ht hb) (hw.old hb))
  have hbb := bool_ne_self (tkB i s x y h l)
  have hss := str_ne_self (tlV i s x y h l)
  clear ht hw w0 w1 w2 w3 w4 w5
  generalize tkB i s x y h l = x0 at *
  generalize tlV i s x y h l = x1 at *
  have B0 := Lib.hid (newS 63 #[.int .i64 i, .int .i64 s, .int .i64 x, .int .i64 y, .int .i64 h, .int .i64 l] w)
  go_enter Tryd.func7, Tryd.ntmps7
  go_upto_region 1 with fail
  generalize w.alloc (.cells #[.int .i64 i, .int .i64 s, .int .i64 x, .int .i64 y, .int .i64 h, .int .i64 l] 63) = W0 at *
  have c0 : World.cell? W0 ⟨w.heap.size, 0, none⟩ = some (.int .i64 i) := B0.out.cell 0
  have c1 : World.cell? W0 ⟨w.heap.size, 1, none⟩ = some (.int .i64 s) := B0.out.cell 1
  have c2 : World.cell? W0 ⟨w.heap.size, 2, none⟩ = some (.int .i64 x) := B0.out.cell 2
  have c3 : World.cell? W0 ⟨w.heap.size, 3, none⟩ = some (.int .i64 y) := B0.out.cell 3
  have c4 : World.cell? W0 ⟨w.heap.size, 4, none⟩ = some (.int .i64 h) := B0.out.cell 4
  have c5 : World.cell? W0 ⟨w.heap.size, 5, none⟩ = some (.int .i64 l) := B0.out.cell 5
  go_wp2_with fail
  refine (trke.toTrack i s x y h l _).mono ?_
  rintro e W1 ⟨rfl, hb⟩
  have B1 := Lib.hid (B0.out.old hb)
  clear c0 c1 c2 c3 c4 c5 hb
  go_wp2_with fail
  refine (hs.out W1).mono ?_
  rintro e W2 ⟨rfl, hb⟩
  have B2 := Lib.hid (B1.out.old hb)
  clear hb
  have c0 : World.cell? W2 ⟨w.heap.size, 0, none⟩ = some (.int .i64 i) := B2.out.cell 0
  have c1 : World.cell? W2 ⟨w.heap.size, 1, none⟩ = some (.int .i64 s) := B2.out.cell 1
  have c2 : World.cell? W2 ⟨w.heap.size, 2, none⟩ = some (.int .i64 x) := B2.out.cell 2
  have c3 : World.cell? W2 ⟨w.heap.size, 3, none⟩ = some (.int .i64 y) := B2.out.cell 3
  have c4 : World.cell? W2 ⟨w.heap.size, 4, none⟩ = some (.int .i64 h) := B2.out.cell 4
  have c5 : World.cell? W2 ⟨w.heap.size, 5, none⟩ = some (.int .i64 l) := B2.out.cell 5
  go_wp2_with fail
  refine (trke.toTrack i s x y h l _).mono ?_
  rintro e W3 ⟨rfl, hb⟩
  have B3 := Lib.hid (B2.out.old hb)
  clear c0 c1 c2 c3 c4 c5 hb
  go_wp2_with fail
  refine (hi.out W3 B3.out.1).mono ?_
  rintro e W4 ⟨rfl, hb⟩
  have B4 := Lib.hid (B3.out.old hb)
  clear hb
  go_wp2_with fail
  go_ret
  exact ⟨rfl, B4.out.1⟩


theorem own : ownKnob Tryd.prog.godebug = none := by kernel_rfl
theorem laidOut : laidOutB Tryd.prog = true := by kernel_rfl

theorem gTab : Tryd.prog.globalNamed "internal/strconv.uint64pow10" = some 3 := by kernel_rfl
theorem gTabType : (Tryd.prog.globals[3]?).map (·.type) = some 147 := by kernel_rfl
theorem cellsTab : Tryd.prog.cellsOf 147 = 20 := by kernel_rfl
theorem cellsU : Tryd.prog.cellsOf 69 = 1 := by kernel_rfl
theorem table {W : World} (h : laidMet Tryd.prog Rows.fnExactTrackLineRow.laid W) : Lib.TabIs Tryd.prog W "internal/strconv.uint64pow10" .u64 Lib.pow10Tab :=
  Lib.tabIs_of_head (rest := _) gTab gTabType Tryd.underlying147 Tryd.underlying69 cellsU cellsTab (laidMet.tail (laidMet.tail h))


set_option maxRecDepth 100000 in
theorem contract (H : Type) (enc : TypeId × Value → H) (W : World) (base : Nat) (args : Array Value) (ds gs : List (DataW H)) (before : List MemPlace)
    (hval : ∀ (j : Nat) t v, Tryd.f7.params[j]? = some t → args[j]? = some v → Value.okWide Tryd.prog W .any base t v)
    (hW : DataW.Whole enc Tryd.prog Tryd.f7.params.toList Rows.fnExactTrackLineSpec.vars false W args.toList ds gs before) (hL : laidMetH Tryd.prog Rows.fnExactTrackLineRow.laid W) :
    Calls Tryd.prog 7 args W fun e W' => ∃ v, e = .returned v ∧ Rows.fnExactTrackLineSpec.post enc Tryd.prog Tryd.f7 false true false false W args v W' := by
  have hW' := hW
  obtain ⟨p, q, hA0, hV, rfl, hfz, hnd⟩ := hW
  have hA : DataW.TrodAll enc Tryd.prog W 0 (fun _ => true) true Tryd.f7.params.toList args.toList ds p := hA0
  rw [Tryd.params7] at hA hval
  obtain ⟨v0, vs0, d0, ds0, p0, q0, hargs, rfl, rfl, h0, r0⟩ := trodAll_cons hA
  obtain ⟨rfl, rfl, rfl⟩ := trodAll_nil r0
  obtain rfl : args = #[v0] := by cases args; simp_all
  obtain ⟨dv0, rfl⟩ : ∃ dv0, gs = [dv0] := by
    match gs, laid_.vars_length hV with
    | [dv0], _ => exact ⟨dv0, rfl⟩
  have k0 := h0
  have lt0 : ∀ x ∈ p0, x.block < W.heap.size := by obtain ⟨m, hm⟩ := k0; exact DataW.trod_lt m _ _ _ hm
  obtain ⟨f00, f01, f02, f03, f04, f05, y00, y01, y02, y03, y04, y05, m0, rfl, rfl, rfl, t00, t01, t02, t03, t04, t05⟩ := opn.open_agg6 Tryd.underlying63 (by kernel_rfl) (by kernel_rfl) (hval 0 63 v0 rfl rfl) h0
  obtain ⟨a00, e00, -, w00⟩ := DataW.trod_int Tryd.underlying3 t00
  obtain rfl : f00 = .int .i64 a00 := by simpa using e00
  obtain ⟨a01, e01, -, w01⟩ := DataW.trod_int Tryd.underlying3 t01
  obtain rfl : f01 = .int .i64 a01 := by simpa using e01
  obtain ⟨a02, e02, -, w02⟩ := DataW.trod_int Tryd.underlying3 t02
  obtain rfl : f02 = .int .i64 a02 := by simpa using e02
  obtain ⟨a03, e03, -, w03⟩ := DataW.trod_int Tryd.underlying3 t03
  obtain rfl : f03 = .int .i64 a03 := by simpa using e03
  obtain ⟨a04, e04, -, w04⟩ := DataW.trod_int Tryd.underlying3 t04
  obtain rfl : f04 = .int .i64 a04 := by simpa using e04
  obtain ⟨a05, e05, -, w05⟩ := DataW.trod_int Tryd.underlying3 t05
  obtain rfl : f05 = .int .i64 a05 := by simpa using e05
  clear hA0
  refine (walk a00 a01 a02 a03 a04 a05 w00 w01 w02 w03 w04 w05 W (table hL) (tab_of hL)).mono fun e W' ⟨he, bel⟩ => ?_
  subst he
  exact ⟨_, rfl, _, _, _, [], _, _, hW', trodAll_mk1 (shut_bool Tryd.underlying4 _), (trodAll_cons_mk (Below.trod laidOut (by kernel_rfl) (of_decide_eq_true (by kernel_rfl)) k0 bel lt0) trodAll_mk0), Below.trodVars laidOut bel (by kernel_rfl) hV, bel.frame _, fun h => by cases h⟩

noncomputable def laidWorld (os : Os) : World :=
  { World.holding Tryd.prog os ⟨#[], #[], []⟩ with heap := (((((World.holding Tryd.prog os ⟨#[], #[], []⟩).heap.modify 0 fun
      | .cells _ t frozen => .cells trkq.wordsC t frozen
      | o => o).modify 3 fun
      | .cells _ t frozen => .cells #[.int .u64 1, .int .u64 10, .int .u64 100, .int .u64 1000, .int .u64 10000, .int .u64 100000, .int .u64 1000000, .int .u64 10000000, .int .u64 100000000, .int .u64 1000000000, .int .u64 10000000000, .int .u64 100000000000, .int .u64 1000000000000, .int .u64 10000000000000, .int .u64 100000000000000, .int .u64 1000000000000000, .int .u64 10000000000000000, .int .u64 100000000000000000, .int .u64 1000000000000000000, .int .u64 10000000000000000000] t frozen
      | o => o).modify 4 fun
      | .cells _ t frozen => .cells #[.int .u8 0, .int .u8 1, .int .u8 28, .int .u8 2, .int .u8 29, .int .u8 14, .int .u8 24, .int .u8 3, .int .u8 30, .int .u8 22, .int .u8 20, .int .u8 15, .int .u8 25, .int .u8 17, .int .u8 4, .int .u8 8, .int .u8 31, .int .u8 27, .int .u8 13, .int .u8 23, .int .u8 21, .int .u8 19, .int .u8 16, .int .u8 7, .int .u8 26, .int .u8 12, .int .u8 18, .int .u8 6, .int .u8 11, .int .u8 5, .int .u8 10, .int .u8 9] t frozen
      | o => o).modify 5 fun
      | .cells _ t frozen => .cells #[.int .u8 0, .int .u8 1, .int .u8 56, .int .u8 2, .int .u8 57, .int .u8 49, .int .u8 28, .int .u8 3, .int .u8 61, .int .u8 58, .int .u8 42, .int .u8 50, .int .u8 38, .int .u8 29, .int .u8 17, .int .u8 4, .int .u8 62, .int .u8 47, .int .u8 59, .int .u8 36, .int .u8 45, .int .u8 43, .int .u8 51, .int .u8 22, .int .u8 53, .int .u8 39, .int .u8 33, .int .u8 30, .int .u8 24, .int .u8 18, .int .u8 12, .int .u8 5, .int .u8 63, .int .u8 55, .int .u8 48, .int .u8 27, .int .u8 60, .int .u8 41, .int .u8 37, .int .u8 16, .int .u8 46, .int .u8 35, .int .u8 44, .int .u8 21, .int .u8 52, .int .u8 32, .int .u8 23, .int .u8 11, .int .u8 54, .int .u8 26, .int .u8 40, .int .u8 15, .int .u8 34, .int .u8 20, .int .u8 31, .int .u8 10, .int .u8 25, .int .u8 14, .int .u8 19, .int .u8 9, .int .u8 13, .int .u8 8, .int .u8 7, .int .u8 6] t frozen
      | o => o) }
theorem laid_met (os : Os) : laidMet Tryd.prog Rows.fnExactTrackLineRow.laid ((laidWorld os).forCall (fun _ _ => 0) ⟨#[], #[.agg #[.int .i64 0, .int .i64 0, .int .i64 0, .int .i64 0, .int .i64 0, .int .i64 0]], []⟩).memory :=
  laidMet_of_run' 8 (by kernel_rfl) (by kernel_rfl)
theorem reads (os : Os) {H : Type} (enc : TypeId × Value → H) : ∃ places, DataW.whole enc Tryd.prog ((laidWorld os).forCall (fun _ _ => 0) ⟨#[], #[.agg #[.int .i64 0, .int .i64 0, .int .i64 0, .int .i64 0, .int .i64 0, .int .i64 0]], []⟩).memory Tryd.f7.params.toList Rows.fnExactTrackLineSpec.vars false (#[.agg #[.int .i64 0, .int .i64 0, .int .i64 0, .int .i64 0, .int .i64 0, .int .i64 0]] : Array Value).toList 8 = some ([.agg [.lit (.int .i64 0), .lit (.int .i64 0), .lit (.int .i64 0), .lit (.int .i64 0), .lit (.int .i64 0), .lit (.int .i64 0)]], [Rows.laid_loop_example_g00875_impl_stateWords], places) :=
  ⟨MemPlace.row ⟨0, 0, none⟩ 4, by kernel_rfl⟩

set_option maxRecDepth 100000 in
theorem lifted (os : Os) (started : os.Started) (H : Type) (enc : TypeId × Value → H) (F : Stop.Interp) :
    ReturnsInHanded {} Tryd.checked os 7 .any ((OpenSpec.ofChange Rows.fnExactTrackLineSpec).preRow enc Tryd.prog Tryd.f7 Rows.fnExactTrackLineRow.domain false Rows.fnExactTrackLineRow.laid) (((OpenSpec.ofChange Rows.fnExactTrackLineSpec).at F).post enc Tryd.prog Tryd.f7 false true false false) := by
  obtain ⟨places, hx⟩ := reads os enc
  refine returnsInHanded_of_row (C := Tryd.checked) (s := OpenSpec.ofChange Rows.fnExactTrackLineSpec) own started (by kernel_rfl) Tryd.func7
    (witness_row_at (enc := enc) (C := Tryd.checked) false (laidWorld os) #[.agg #[.int .i64 0, .int .i64 0, .int .i64 0, .int .i64 0, .int .i64 0, .int .i64 0]] rfl (by kernel_rfl) (by kernel_rfl) (by kernel_rfl)
      (OpenSpec.preRow_of_cond 8 hx (by kernel_rfl) (fun k hk => by cases hk) (by kernel_rfl) (laid_met os))) ?_
  intro W base args ds gs before hval hW _ _ _ hL _ _
  exact contract H enc W base args ds gs before hval hW hL

theorem said : Rows.FnExactTrackLineSaid :=
  OpenClaim.holds_of_cond 7 Tryd.f7 rfl rfl rfl rfl rfl rfl rfl ⟨rfl, rfl, rfl, rfl, rfl⟩ rfl rfl rfl rfl rfl (by kernel_rfl) Tryd.func7 (by kernel_rfl)
    (of_decide_eq_true (by kernel_rfl)) (by unfold Func.isWrapper; first | (rw [if_pos (by decide +kernel)]; kernel_rfl) | (rw [if_neg (by decide +kernel)]; exact ⟨rfl, rfl⟩))
    (fun os started H enc _ F => by rw [OpenClaim.pre_eq_preRow]; exact lifted os started H enc F)

theorem plain (f : FuncId) (fn : Func) (hf : Tryd.pinned.checked.prog.funcNamed "loop.example/g00875/laws.FnExactTrackLine" = some f) (hfn : Tryd.pinned.checked.prog.funcs[f]? = some fn) :
    true = Tryd.pinned.checked.prog.looks [] ∧ ∀ (j : Nat) t, fn.params[j]? = some t → Tryd.pinned.checked.prog.wantsStandIn t = false := by
  obtain rfl : f = 7 := Option.some.inj ((show Tryd.prog.funcNamed "loop.example/g00875/laws.FnExactTrackLine" = some 7 by kernel_rfl).symm.trans hf) |>.symm
  obtain rfl : fn = Tryd.f7 := (Option.some.inj (Tryd.func7.symm.trans hfn)).symm
  refine ⟨by kernel_rfl, fun j t ht => ?_⟩
  rw [Tryd.params7] at ht
  have hm := Array.mem_of_getElem? ht
  simp at hm
  obtain rfl := hm
  exact (show Tryd.prog.wantsStandIn 63 = false by kernel_rfl)

theorem proved : Rows.FnExactTrackLineCardSaid :=
  Claim7.holds_tied_plain_at .later [] _ _ _ _ said (fun _ h => by cases h) (by kernel_rfl) (fun _ h => by cases h) fnExactTrackLine_row_tie rfl ⟨rfl, rfl⟩ (by kernel_rfl) rfl plain (by kernel_rfl)
#print axioms proved
end Go.Proofs.YtmandeiiaioodaaDoor.fnExactTrackLine
