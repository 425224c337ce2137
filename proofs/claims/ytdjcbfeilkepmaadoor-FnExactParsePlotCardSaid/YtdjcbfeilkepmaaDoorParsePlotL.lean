/- For every string the law FnExactParsePlot returns true: impl.ParsePlot and spec.ParsePlot return the same plot, or both a zero plot and false; the results share no memory. The card ties the three tables of strconv and math/bits to the program. No condition of mine. -/
import Derived.Test.YtdjcbfeilkepmaaDoorCards
import Derived.Test.YtdjcbfeilkepmaaDoorTie
import Derived.Test.YtdjcbfeilkepmaaDoorPtxS
import Derived.Test.YtdjcbfeilkepmaaDoorPtxL
import Derived.WalkKit
import Derived.ProofKit
import Derived.OpenShut
import Derived.ShutString
import Derived.ChangeOld
import Derived.Below
import Derived.Lib.SmallJoins
import Derived.Lib.QuietBelow
import Derived.Stop.LaidErr
import Derived.Deep.DeepHandedRow
import Derived.Lib.LaidTab
import Derived.OpenVars
namespace Go.Proofs.YtdjcbfeilkepmaaDoor.fnExactParsePlot
open Go.ChangeShapes Go.WideShapes Go.ChangeAt Go.RowKit Go.Joins Go.Proofs.YtdjcbfeilkepmaaDoor.ats Go.Proofs.YtdjcbfeilkepmaaDoor.ints Go.Proofs.YtdjcbfeilkepmaaDoor.lst Go.Proofs.YtdjcbfeilkepmaaDoor.intc Go.Proofs.YtdjcbfeilkepmaaDoor.ptx Go.Proofs.YtdjcbfeilkepmaaDoor.ptxl
open Go.ChangeMaps (open_string shut_string)
set_option linter.unusedVariables false

theorem bool_ne_self (b : Bool) : (b != b) = false := by simp
theorem int_ne_self (x : Int) : (x != x) = false := by simp
theorem pL_len (t : ByteArray) : (pL t).length ≤ 9 := by
  unfold pL
  split
  · unfold rL; exact ptxi.rD_len _
  · exact Nat.zero_le _

set_option maxRecDepth 100000 in
set_option maxHeartbeats 8000000 in
theorem walk (t : ByteArray) (w0 : t.size ≤ maxLen) (w : World) (ht : Lib.TabIs Tryd.prog w "internal/strconv.uint64pow10" .u64 Lib.pow10Tab) (hm : ptxi.Mx w) :
    Calls Tryd.prog 5 #[.string t] w fun e w' => e = .returned (.bool true) ∧ Below w.heap.size w w' := by
  by_cases h0 : (1048576 : Int) < (t.size : Int)
  · clear w0 ht hm
    go_enter Tryd.func5, Tryd.ntmps5
    go_wp2_with fail
    go_ret
    exact ⟨rfl, Below.refl _ _⟩
  have hlen : t.size ≤ 1048576 := by omega
  have SP := Lib.hid (ptxs.parsePlotS t w hlen)
  have IM := Lib.hid (fun (W : World) (hb : Below w.heap.size w W) => ptxi.parsePlotI t W hlen (fmt.tab_on ht hb) (ptxi.mx_on hm hb))
  have h9 := pL_len t
  have nb := bool_ne_self (ppB t)
  clear ht hm w0
  generalize pS t = s at *
  generalize pA t = a at *
  generalize pX t = x at *
  generalize pY t = y at *
  generalize ppB t = b at *
  generalize pL t = L at *
  generalize hn : L.length = n at *
  have HN := Lib.hid hn
  have n1 : decide (((1 + n : Nat) : Int) < 0) = false := decide_eq_false (by omega)
  have n2 := int_ne_self ((1 + n : Nat) : Int)
  have HN1 := Lib.hid (show ((1 : Nat) : Int) = 1 from rfl)
  clear hn
  go_enter Tryd.func5, Tryd.ntmps5
  go_wp2_with fail
  refine SP.out.mono ?_
  rintro e V1 ⟨v, rfl, ho, hb⟩
  obtain ⟨Aw, cw, rfl⟩ := own_sliceZ ho
  have RW := Lib.hid ((intc.rd_of_own ho HN.out).next ((Below.refl V1.heap.size V1).alloc (Nat.le_refl _) (.cells #[.int .i64 s, .int .i64 a, .int .i64 x, .int .i64 y, .slice Aw n cw] 28)))
  have BW := Lib.hid (newS 28 #[.int .i64 s, .int .i64 a, .int .i64 x, .int .i64 y, .slice Aw n cw] V1)
  have B2 := Lib.hid (hb.trans (BW.out.1.mono hb.size))
  clear ho hb SP
  go_upto_region 4 with fail
  generalize V1.alloc (.cells #[.int .i64 s, .int .i64 a, .int .i64 x, .int .i64 y, .slice Aw n cw] 28) = V2 at *
  generalize V1.heap.size = bW at *
  go_wp2_with fail
  refine (IM.out V2 B2.out).mono ?_
  rintro e V3 ⟨v, rfl, ho, hb⟩
  obtain ⟨Ag, cg, rfl⟩ := own_sliceZ ho
  have BG := Lib.hid (posx.at_next 28 #[.int .i64 s, .int .i64 a, .int .i64 x, .int .i64 y, .slice Ag n cg] hb)
  have OG := Lib.hid (ho.alloc (.cells #[.int .i64 s, .int .i64 a, .int .i64 x, .int .i64 y, .slice Ag n cg] 28))
  clear ho hb
  go_upto_region 5 with fail
  generalize V3.alloc (.cells #[.int .i64 s, .int .i64 a, .int .i64 x, .int .i64 y, .slice Ag n cg] 28) = V4 at *
  generalize V3.heap.size = bG at *
  have BW4 := Lib.hid (BW.out.old BG.out.1)
  have p0 : V4.cell? ⟨bW, 0, none⟩ = some (.int .i64 s) := BW4.out.cell 0
  have p1 : V4.cell? ⟨bW, 1, none⟩ = some (.int .i64 a) := BW4.out.cell 1
  have p2 : V4.cell? ⟨bW, 2, none⟩ = some (.int .i64 x) := BW4.out.cell 2
  have p3 : V4.cell? ⟨bW, 3, none⟩ = some (.int .i64 y) := BW4.out.cell 3
  have p4 : V4.cell? ⟨bW, 4, none⟩ = some (.slice Aw n cw) := BW4.out.cell 4
  have q0 : V4.cell? ⟨bG, 0, none⟩ = some (.int .i64 s) := BG.out.cell 0
  have q1 : V4.cell? ⟨bG, 1, none⟩ = some (.int .i64 a) := BG.out.cell 1
  have q2 : V4.cell? ⟨bG, 2, none⟩ = some (.int .i64 x) := BG.out.cell 2
  have q3 : V4.cell? ⟨bG, 3, none⟩ = some (.int .i64 y) := BG.out.cell 3
  have q4 : V4.cell? ⟨bG, 4, none⟩ = some (.slice Ag n cg) := BG.out.cell 4
  have E1 := Lib.hid (pltv.eqPlot s a x y L Ag Aw n cg cw V4 (by omega) (intc.rd_of_own OG.out HN.out) (RW.out.next BG.out.1))
  clear BW4
  go_wp2_with fail
  refine E1.out.mono ?_
  rintro e V5 ⟨rfl, hb⟩
  have BG5 := Lib.hid (BG.out.old hb)
  have OG5 := Lib.hid (own_.own_below OG.out hb)
  clear hb BG OG E1
  clear p0 p1 p2 p3 p4
  clear q0 q1 q2 q3 q4
  have q0 : V5.cell? ⟨bG, 0, none⟩ = some (.int .i64 s) := BG5.out.cell 0
  have q1 : V5.cell? ⟨bG, 1, none⟩ = some (.int .i64 a) := BG5.out.cell 1
  have q2 : V5.cell? ⟨bG, 2, none⟩ = some (.int .i64 x) := BG5.out.cell 2
  have q3 : V5.cell? ⟨bG, 3, none⟩ = some (.int .i64 y) := BG5.out.cell 3
  have q4 : V5.cell? ⟨bG, 4, none⟩ = some (.slice Ag n cg) := BG5.out.cell 4
  have M1 := markPlot s a x y V2.heap.size Ag 1 n cg (cellsI L) V5 BG5.out.1.size (by omega) OG5.out
  rw [HN1.out] at M1
  have M1 := Lib.hid M1
  go_wp2_with fail
  refine M1.out.mono ?_
  rintro e V6 ⟨rfl, hb, hg, ho⟩
  have BG6 := Lib.hid (at_kept BG5.out hg (fun g e => ⟨fun e2 => own_ne OG5.out BG5.out.2.2.2 (by decide) (e.trans (by rw [e2])), own_.row_ge OG5.out g e⟩))
  have RM := Lib.hid (own_marks ho)
  clear hb hg ho BG5 OG5 M1
  clear q0 q1 q2 q3 q4
  have q0 : V6.cell? ⟨bG, 0, none⟩ = some (.int .i64 s) := BG6.out.cell 0
  have q1 : V6.cell? ⟨bG, 1, none⟩ = some (.int .i64 a) := BG6.out.cell 1
  have q2 : V6.cell? ⟨bG, 2, none⟩ = some (.int .i64 x) := BG6.out.cell 2
  have q3 : V6.cell? ⟨bG, 3, none⟩ = some (.int .i64 y) := BG6.out.cell 3
  have q4 : V6.cell? ⟨bG, 4, none⟩ = some (.slice Ag n cg) := BG6.out.cell 4
  have M2 := heldPlot s a x y Ag 1 n cg V6 (by omega) RM.out
  rw [HN1.out] at M2
  have M2 := Lib.hid M2
  go_wp2_with fail
  refine M2.out.mono ?_
  rintro e V7 ⟨rfl, hb⟩
  have BG7 := Lib.hid (BG6.out.old hb)
  have RM7 := Lib.hid (RM.out.next hb)
  clear hb BG6 RM M2
  clear q0 q1 q2 q3 q4
  go_wp2_with fail
  refine (IM.out V7 (B2.out.trans (BG7.out.1.mono B2.out.size))).mono ?_
  rintro e V8 ⟨v, rfl, ho, hb⟩
  obtain ⟨Ah, ch, rfl⟩ := own_sliceZ ho
  have BH := Lib.hid (newS 28 #[.int .i64 s, .int .i64 a, .int .i64 x, .int .i64 y, .slice Ah n ch] V8)
  have BG9 := Lib.hid ((BG7.out.old hb).old BH.out.1)
  have RM9 := Lib.hid ((RM7.out.next hb).next BH.out.1)
  have OH := Lib.hid (ho.alloc (.cells #[.int .i64 s, .int .i64 a, .int .i64 x, .int .i64 y, .slice Ah n ch] 28))
  clear ho hb BG7 RM7 IM
  go_upto_region 16 with fail
  generalize V8.alloc (.cells #[.int .i64 s, .int .i64 a, .int .i64 x, .int .i64 y, .slice Ah n ch] 28) = V9 at *
  generalize V8.heap.size = bH at *
  have BW9 := Lib.hid (BW.out.old BG9.out.1)
  have p0 : V9.cell? ⟨bW, 0, none⟩ = some (.int .i64 s) := BW9.out.cell 0
  have p1 : V9.cell? ⟨bW, 1, none⟩ = some (.int .i64 a) := BW9.out.cell 1
  have p2 : V9.cell? ⟨bW, 2, none⟩ = some (.int .i64 x) := BW9.out.cell 2
  have p3 : V9.cell? ⟨bW, 3, none⟩ = some (.int .i64 y) := BW9.out.cell 3
  have p4 : V9.cell? ⟨bW, 4, none⟩ = some (.slice Aw n cw) := BW9.out.cell 4
  have r0 : V9.cell? ⟨bH, 0, none⟩ = some (.int .i64 s) := BH.out.cell 0
  have r1 : V9.cell? ⟨bH, 1, none⟩ = some (.int .i64 a) := BH.out.cell 1
  have r2 : V9.cell? ⟨bH, 2, none⟩ = some (.int .i64 x) := BH.out.cell 2
  have r3 : V9.cell? ⟨bH, 3, none⟩ = some (.int .i64 y) := BH.out.cell 3
  have r4 : V9.cell? ⟨bH, 4, none⟩ = some (.slice Ah n ch) := BH.out.cell 4
  have E2 := Lib.hid (pltv.eqPlot s a x y L Ah Aw n ch cw V9 (by omega) (intc.rd_of_own OH.out HN.out) (RW.out.next BG9.out.1))
  clear BW9
  go_wp2_with fail
  refine E2.out.mono ?_
  rintro e V10 ⟨rfl, hb⟩
  have BG10 := Lib.hid (BG9.out.old hb)
  have RM10 := Lib.hid (RM9.out.next hb)
  clear hb BG9 RM9 E2 OH BH
  clear p0 p1 p2 p3 p4
  clear r0 r1 r2 r3 r4
  have q0 : V10.cell? ⟨bG, 0, none⟩ = some (.int .i64 s) := BG10.out.cell 0
  have q1 : V10.cell? ⟨bG, 1, none⟩ = some (.int .i64 a) := BG10.out.cell 1
  have q2 : V10.cell? ⟨bG, 2, none⟩ = some (.int .i64 x) := BG10.out.cell 2
  have q3 : V10.cell? ⟨bG, 3, none⟩ = some (.int .i64 y) := BG10.out.cell 3
  have q4 : V10.cell? ⟨bG, 4, none⟩ = some (.slice Ag n cg) := BG10.out.cell 4
  have M3 := heldPlot s a x y Ag 1 n cg V10 (by omega) RM10.out
  rw [HN1.out] at M3
  have M3 := Lib.hid M3
  go_wp2_with fail
  refine M3.out.mono ?_
  rintro e V11 ⟨rfl, hb⟩
  have HE := Lib.hid (B2.out.trans ((BG10.out.old hb).1.mono B2.out.size))
  clear hb
  clear q0 q1 q2 q3 q4
  go_wp2_with fail
  go_ret
  exact ⟨rfl, HE.out⟩

theorem own : ownKnob Tryd.prog.godebug = none := by kernel_rfl
theorem laidOut : laidOutB Tryd.prog = true := by kernel_rfl

theorem gTab : Tryd.prog.globalNamed "internal/strconv.uint64pow10" = some 1 := by kernel_rfl
theorem gTabType : (Tryd.prog.globals[1]?).map (·.type) = some 117 := by kernel_rfl
theorem cellsTab : Tryd.prog.cellsOf 117 = 20 := by kernel_rfl
theorem cellsU : Tryd.prog.cellsOf 62 = 1 := by kernel_rfl
theorem table {W : World} (h : laidMet Tryd.prog Rows.fnExactParsePlotRow.laid W) : Lib.TabIs Tryd.prog W "internal/strconv.uint64pow10" .u64 Lib.pow10Tab :=
  Lib.tabIs_of_head (rest := []) gTab gTabType Tryd.underlying117 Tryd.underlying62 cellsU cellsTab (laidMet.tail (laidMet.tail h))


set_option maxRecDepth 100000 in
theorem contract (H : Type) (enc : TypeId × Value → H) (W : World) (base : Nat) (args : Array Value) (ds gs : List (DataW H)) (before : List MemPlace)
    (hval : ∀ (j : Nat) t v, Tryd.f5.params[j]? = some t → args[j]? = some v → Value.okWide Tryd.prog W .any base t v)
    (hW : DataW.Whole enc Tryd.prog Tryd.f5.params.toList Rows.fnExactParsePlotSpec.vars false W args.toList ds gs before) (hL : laidMetH Tryd.prog Rows.fnExactParsePlotRow.laid W) (hsh : W.ShapedOpen Tryd.prog) :
    Calls Tryd.prog 5 args W fun e W' => ∃ v, e = .returned v ∧ Rows.fnExactParsePlotSpec.post enc Tryd.prog Tryd.f5 false true false false W args v W' := by
  have hW' := hW
  obtain ⟨p, q, hA0, hV, rfl, hfz, hnd⟩ := hW
  have hA : DataW.TrodAll enc Tryd.prog W 0 (fun _ => true) true Tryd.f5.params.toList args.toList ds p := hA0
  rw [Tryd.params5] at hA hval
  obtain ⟨v0, vs0, d0, ds0, p0, q0, hargs, rfl, rfl, h0, r0⟩ := trodAll_cons hA
  obtain ⟨rfl, rfl, rfl⟩ := trodAll_nil r0
  obtain rfl : args = #[v0] := by cases args; simp_all
  obtain ⟨rfl, rfl⟩ := trodVars_none hV
  obtain ⟨a0, rfl, rfl, rfl, w0⟩ := open_string Tryd.underlying9 (hval 0 9 v0 rfl rfl) h0
  clear hA0
  refine (walk a0 w0 W (table hL) (Tryd.laysM145.s1_3 W hsh)).mono fun e W' ⟨he, bel⟩ => ?_
  subst he
  exact ⟨_, rfl, _, _, _, [], _, [], hW', trodAll_mk1 (shut_bool Tryd.underlying4 _), (trodAll_cons_mk (shut_string Tryd.underlying9 w0) trodAll_mk0), rfl, bel.frame _, fun h => by cases h⟩

noncomputable def laidWorld (os : Os) : World :=
  { World.holding Tryd.prog os ⟨#[], #[], []⟩ with heap := ((((World.holding Tryd.prog os ⟨#[], #[], []⟩).heap.modify 1 fun
      | .cells _ t frozen => .cells #[.int .u64 1, .int .u64 10, .int .u64 100, .int .u64 1000, .int .u64 10000, .int .u64 100000, .int .u64 1000000, .int .u64 10000000, .int .u64 100000000, .int .u64 1000000000, .int .u64 10000000000, .int .u64 100000000000, .int .u64 1000000000000, .int .u64 10000000000000, .int .u64 100000000000000, .int .u64 1000000000000000, .int .u64 10000000000000000, .int .u64 100000000000000000, .int .u64 1000000000000000000, .int .u64 10000000000000000000] t frozen
      | o => o).modify 2 fun
      | .cells _ t frozen => .cells #[.int .u8 0, .int .u8 1, .int .u8 28, .int .u8 2, .int .u8 29, .int .u8 14, .int .u8 24, .int .u8 3, .int .u8 30, .int .u8 22, .int .u8 20, .int .u8 15, .int .u8 25, .int .u8 17, .int .u8 4, .int .u8 8, .int .u8 31, .int .u8 27, .int .u8 13, .int .u8 23, .int .u8 21, .int .u8 19, .int .u8 16, .int .u8 7, .int .u8 26, .int .u8 12, .int .u8 18, .int .u8 6, .int .u8 11, .int .u8 5, .int .u8 10, .int .u8 9] t frozen
      | o => o).modify 3 fun
      | .cells _ t frozen => .cells #[.int .u8 0, .int .u8 1, .int .u8 56, .int .u8 2, .int .u8 57, .int .u8 49, .int .u8 28, .int .u8 3, .int .u8 61, .int .u8 58, .int .u8 42, .int .u8 50, .int .u8 38, .int .u8 29, .int .u8 17, .int .u8 4, .int .u8 62, .int .u8 47, .int .u8 59, .int .u8 36, .int .u8 45, .int .u8 43, .int .u8 51, .int .u8 22, .int .u8 53, .int .u8 39, .int .u8 33, .int .u8 30, .int .u8 24, .int .u8 18, .int .u8 12, .int .u8 5, .int .u8 63, .int .u8 55, .int .u8 48, .int .u8 27, .int .u8 60, .int .u8 41, .int .u8 37, .int .u8 16, .int .u8 46, .int .u8 35, .int .u8 44, .int .u8 21, .int .u8 52, .int .u8 32, .int .u8 23, .int .u8 11, .int .u8 54, .int .u8 26, .int .u8 40, .int .u8 15, .int .u8 34, .int .u8 20, .int .u8 31, .int .u8 10, .int .u8 25, .int .u8 14, .int .u8 19, .int .u8 9, .int .u8 13, .int .u8 8, .int .u8 7, .int .u8 6] t frozen
      | o => o) }
theorem laid_met (os : Os) : laidMet Tryd.prog Rows.fnExactParsePlotRow.laid ((laidWorld os).forCall (fun _ _ => 0) ⟨#[], #[.string ByteArray.empty], []⟩).memory :=
  laidMet_of_run' 8 (by kernel_rfl) (by kernel_rfl)
theorem reads (os : Os) {H : Type} (enc : TypeId × Value → H) : ∃ places, DataW.whole enc Tryd.prog ((laidWorld os).forCall (fun _ _ => 0) ⟨#[], #[.string ByteArray.empty], []⟩).memory Tryd.f5.params.toList Rows.fnExactParsePlotSpec.vars false (#[.string ByteArray.empty] : Array Value).toList 8 = some ([.lit (.string [])], [], places) :=
  ⟨[], by kernel_rfl⟩

set_option maxRecDepth 100000 in
theorem lifted (os : Os) (started : os.Started) (H : Type) (enc : TypeId × Value → H) (F : Stop.Interp) :
    ReturnsInHanded {} Tryd.checked os 5 .any ((OpenSpec.ofChange Rows.fnExactParsePlotSpec).preRow enc Tryd.prog Tryd.f5 Rows.fnExactParsePlotRow.domain false Rows.fnExactParsePlotRow.laid) (((OpenSpec.ofChange Rows.fnExactParsePlotSpec).at F).post enc Tryd.prog Tryd.f5 false true false false) := by
  obtain ⟨places, hx⟩ := reads os enc
  refine returnsInHanded_of_row (C := Tryd.checked) (s := OpenSpec.ofChange Rows.fnExactParsePlotSpec) own started (by kernel_rfl) Tryd.func5
    (witness_row_at (enc := enc) (C := Tryd.checked) false (laidWorld os) #[.string ByteArray.empty] rfl (by kernel_rfl) (by kernel_rfl) (by kernel_rfl)
      (OpenSpec.preRow_of_cond 8 hx (by kernel_rfl) (fun k hk => by cases hk) (by kernel_rfl) (laid_met os))) ?_
  intro W base args ds gs before hval hW _ _ _ hL hsh _
  exact contract H enc W base args ds gs before hval hW hL hsh

theorem said : Rows.FnExactParsePlotSaid :=
  OpenClaim.holds_of_cond 5 Tryd.f5 rfl rfl rfl rfl rfl rfl rfl ⟨rfl, rfl, rfl, rfl, rfl⟩ rfl rfl rfl rfl rfl (by kernel_rfl) Tryd.func5 (by kernel_rfl)
    (of_decide_eq_true (by kernel_rfl)) (by unfold Func.isWrapper; first | (rw [if_pos (by decide +kernel)]; kernel_rfl) | (rw [if_neg (by decide +kernel)]; exact ⟨rfl, rfl⟩))
    (fun os started H enc _ F => by rw [OpenClaim.pre_eq_preRow]; exact lifted os started H enc F)

theorem plain (f : FuncId) (fn : Func) (hf : Tryd.pinned.checked.prog.funcNamed "loop.example/g00875/laws.FnExactParsePlot" = some f) (hfn : Tryd.pinned.checked.prog.funcs[f]? = some fn) :
    false = Tryd.pinned.checked.prog.looks [] ∧ ∀ (j : Nat) t, fn.params[j]? = some t → Tryd.pinned.checked.prog.wantsStandIn t = false := by
  obtain rfl : f = 5 := Option.some.inj ((show Tryd.prog.funcNamed "loop.example/g00875/laws.FnExactParsePlot" = some 5 by kernel_rfl).symm.trans hf) |>.symm
  obtain rfl : fn = Tryd.f5 := (Option.some.inj (Tryd.func5.symm.trans hfn)).symm
  refine ⟨by kernel_rfl, fun j t ht => ?_⟩
  rw [Tryd.params5] at ht
  have hm := Array.mem_of_getElem? ht
  simp at hm
  obtain rfl := hm
  exact (show Tryd.prog.wantsStandIn 9 = false by kernel_rfl)

theorem proved : Rows.FnExactParsePlotCardSaid :=
  Claim7.holds_tied_plain_at .later [] _ _ _ _ said (fun _ h => by cases h) (by kernel_rfl) (fun _ h => by cases h) fnExactParsePlot_row_tie rfl ⟨rfl, rfl⟩ (by kernel_rfl) rfl plain (by kernel_rfl)
#print axioms proved
end Go.Proofs.YtdjcbfeilkepmaaDoor.fnExactParsePlot
