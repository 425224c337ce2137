/- For every string the law FnExactParseFrameText returns true: impl.ParseFrameText and spec.ParseFrameText return the same frame with a text, or both a zero frame and false. No condition. -/
import Derived.Test.YtpjpdfannnafbaaDoorCards
import Derived.Test.YtpjpdfannnafbaaDoorTie
import Derived.Test.YtpjpdfannnafbaaDoorFrmU
import Derived.Test.YtpjpdfannnafbaaDoorFrmL
import Derived.Test.YtpjpdfannnafbaaDoorFrmTab
import Derived.WalkKit
import Derived.ProofKit
import Derived.OpenShut
import Derived.ShutString
import Derived.ChangeOld
import Derived.Below
import Derived.Lib.SmallJoins
import Derived.Lib.QuietBelow
import Derived.Stop.LaidErr
import Derived.Deep.DeepHandedRow
import Derived.Lib.LaidTab
import Derived.OpenVars
namespace Go.Proofs.YtpjpdfannnafbaaDoor.fnExactParseFrameText
open Go.ChangeShapes Go.WideShapes Go.ChangeAt Go.RowKit Go.Joins Go.Proofs.YtpjpdfannnafbaaDoor.ats
open Go.ChangeMaps (open_string shut_string)
set_option linter.unusedVariables false

theorem still {P : Program} {f : FuncId} {args : Array Value} {w : World} {v : Value} (h : Calls P f args w fun e w' => e = .returned v ∧ w = w') : Calls P f args w fun e w' => e = .returned v ∧ Below w.heap.size w w' := h.mono fun _ _ ⟨he, hw⟩ => ⟨he, hw ▸ Below.refl _ _⟩
theorem bool_ne_self (b : Bool) : (b != b) = false := by simp
theorem str_ne_self (x : ByteArray) : (!(x.toList == x.toList)) = false := by simp
theorem int_ne_self (x : Int) : (x != x) = false := by simp

set_option maxRecDepth 100000 in
theorem walk (a0 : ByteArray) (w0 : a0.size ≤ maxLen) (w : World) (ht : frmy.Tab w) :
    Calls Tryd.prog 5 #[.string a0] w fun e w' => e = .returned (.bool true) ∧ Below w.heap.size w w' := by
  by_cases h0 : (1048576 : Int) < (a0.size : Int)
  · clear w0 ht
    go_enter Tryd.func5, Tryd.ntmps5
    go_wp2_with fail
    go_ret
    exact ⟨rfl, Below.refl _ _⟩
  · have hlen : a0.size ≤ 1048576 := by omega
    have hs := Lib.hid (fun w => (show Calls Tryd.prog 21 #[.string a0] w fun e w' => e = .returned (.tuple #[.agg #[.int .i64 (frmp.prK a0 : Nat), .int .i64 (frmp.prA a0 : Nat), .int .i64 (frmp.prD a0 : Nat)], .bool (frmp.prB a0)]) ∧ Below w.heap.size w w' from frmu.parseFrameText a0 w hlen))
    have hi := Lib.hid (fun (W : World) (hb : Below w.heap.size w W) => (show Calls Tryd.prog 17 #[.string a0] W fun e w' => e = .returned (.tuple #[.agg #[.int .i64 (frmp.prK a0 : Nat), .int .i64 (frmp.prA a0 : Nat), .int .i64 (frmp.prD a0 : Nat)], .bool (frmp.prB a0)]) ∧ Below W.heap.size W w' from frmy.parseFrameText a0 W (ht.old hb)))
    have hbb := bool_ne_self (frmp.prB a0)
    clear ht w0 
    generalize ((frmp.prK a0 : Nat) : Int) = x0 at *
    generalize ((frmp.prA a0 : Nat) : Int) = x1 at *
    generalize ((frmp.prD a0 : Nat) : Int) = x2 at *
    generalize frmp.prB a0 = x3 at *
    go_enter Tryd.func5, Tryd.ntmps5
    go_wp2_with fail
    refine (hs.out w).mono ?_
    rintro e W1 ⟨rfl, hb1⟩
    go_wp2_with fail
    have B1 := Lib.hid (newS 25 #[.int .i64 x0, .int .i64 x1, .int .i64 x2] W1)
    generalize W1.alloc (.cells #[.int .i64 x0, .int .i64 x1, .int .i64 x2] 25) = W2 at *
    refine (hi.out W2 (hb1.trans (B1.out.1.mono hb1.size))).mono ?_
    rintro e W3 ⟨rfl, hb3⟩
    have B3 := Lib.hid (B1.out.old hb3)
    have c0 : W3.cell? ⟨W1.heap.size, 0, none⟩ = some (.int .i64 x0) := B3.out.cell 0
    have c1 : W3.cell? ⟨W1.heap.size, 1, none⟩ = some (.int .i64 x1) := B3.out.cell 1
    have c2 : W3.cell? ⟨W1.heap.size, 2, none⟩ = some (.int .i64 x2) := B3.out.cell 2
    have hlt := B3.out.2.2.1
    clear hb3
    go_wp2_with fail
    refine (frml.eqFrame x0 x1 x2 _).mono ?_
    rintro e W5 ⟨rfl, hb5⟩
    have B5 := Lib.hid ((B3.out.alloc (.cells #[.int .i64 x0, .int .i64 x1, .int .i64 x2] 25)).old hb5)
    clear c0 c1 c2
    go_wp2_with fail
    go_ret
    exact ⟨rfl, hb1.trans (B5.out.1.mono hb1.size)⟩

theorem own : ownKnob Tryd.prog.godebug = none := by kernel_rfl
theorem laidOut : laidOutB Tryd.prog = true := by kernel_rfl


set_option maxRecDepth 100000 in
theorem contract (H : Type) (enc : TypeId × Value → H) (W : World) (base : Nat) (args : Array Value) (ds gs : List (DataW H)) (before : List MemPlace)
    (hval : ∀ (j : Nat) t v, Tryd.f5.params[j]? = some t → args[j]? = some v → Value.okWide Tryd.prog W .any base t v)
    (hW : DataW.Whole enc Tryd.prog Tryd.f5.params.toList Rows.fnExactParseFrameTextSpec.vars false W args.toList ds gs before) (hL : laidMetH Tryd.prog Rows.fnExactParseFrameTextRow.laid W) :
    Calls Tryd.prog 5 args W fun e W' => ∃ v, e = .returned v ∧ Rows.fnExactParseFrameTextSpec.post enc Tryd.prog Tryd.f5 false true false false W args v W' := by
  have hW' := hW
  obtain ⟨p, q, hA0, hV, rfl, hfz, hnd⟩ := hW
  have hA : DataW.TrodAll enc Tryd.prog W 0 (fun _ => true) true Tryd.f5.params.toList args.toList ds p := hA0
  rw [Tryd.params5] at hA hval
  obtain ⟨v0, vs0, d0, ds0, p0, q0, hargs, rfl, rfl, h0, r0⟩ := trodAll_cons hA
  obtain ⟨rfl, rfl, rfl⟩ := trodAll_nil r0
  obtain rfl : args = #[v0] := by cases args; simp_all
  obtain ⟨dv0, rfl⟩ : ∃ dv0, gs = [dv0] := by
    match gs, laid_.vars_length hV with
    | [dv0], _ => exact ⟨dv0, rfl⟩
  obtain ⟨a0, rfl, rfl, rfl, w0⟩ := open_string Tryd.underlying9 (hval 0 9 v0 rfl rfl) h0
  clear hA0
  refine (walk a0 w0 W (frmtab.tab_of hL)).mono fun e W' ⟨he, bel⟩ => ?_
  subst he
  exact ⟨_, rfl, _, _, _, [], _, _, hW', trodAll_mk1 (shut_bool Tryd.underlying4 _), (trodAll_cons_mk (shut_string Tryd.underlying9 w0) trodAll_mk0), Below.trodVars laidOut bel (by kernel_rfl) hV, bel.frame _, fun h => by cases h⟩

noncomputable def laidWorld (os : Os) : World :=
  { World.holding Tryd.prog os ⟨#[], #[], []⟩ with heap := ((World.holding Tryd.prog os ⟨#[], #[], []⟩).heap.modify 0 fun
      | .cells _ t frozen => .cells frmt.wordsC t frozen
      | o => o) }
theorem laid_met (os : Os) : laidMet Tryd.prog Rows.fnExactParseFrameTextRow.laid ((laidWorld os).forCall (fun _ _ => 0) ⟨#[], #[.string ByteArray.empty], []⟩).memory :=
  laidMet_of_run' 8 (by kernel_rfl) (by kernel_rfl)
theorem reads (os : Os) {H : Type} (enc : TypeId × Value → H) : ∃ places, DataW.whole enc Tryd.prog ((laidWorld os).forCall (fun _ _ => 0) ⟨#[], #[.string ByteArray.empty], []⟩).memory Tryd.f5.params.toList Rows.fnExactParseFrameTextSpec.vars false (#[.string ByteArray.empty] : Array Value).toList 8 = some ([.lit (.string [])], [Rows.laid_loop_example_g00875_impl_frameWords], places) :=
  ⟨MemPlace.row ⟨0, 0, none⟩ 5, by kernel_rfl⟩

set_option maxRecDepth 100000 in
theorem lifted (os : Os) (started : os.Started) (H : Type) (enc : TypeId × Value → H) (F : Stop.Interp) :
    ReturnsInHanded {} Tryd.checked os 5 .any ((OpenSpec.ofChange Rows.fnExactParseFrameTextSpec).preRow enc Tryd.prog Tryd.f5 Rows.fnExactParseFrameTextRow.domain false Rows.fnExactParseFrameTextRow.laid) (((OpenSpec.ofChange Rows.fnExactParseFrameTextSpec).at F).post enc Tryd.prog Tryd.f5 false true false false) := by
  obtain ⟨places, hx⟩ := reads os enc
  refine returnsInHanded_of_row (C := Tryd.checked) (s := OpenSpec.ofChange Rows.fnExactParseFrameTextSpec) own started (by kernel_rfl) Tryd.func5
    (witness_row_at (enc := enc) (C := Tryd.checked) false (laidWorld os) #[.string ByteArray.empty] rfl (by kernel_rfl) (by kernel_rfl) (by kernel_rfl)
      (OpenSpec.preRow_of_cond 8 hx (by kernel_rfl) (fun k hk => by cases hk) (by kernel_rfl) (laid_met os))) ?_
  intro W base args ds gs before hval hW _ _ _ hL _ _
  exact contract H enc W base args ds gs before hval hW hL

theorem said : Rows.FnExactParseFrameTextSaid :=
  OpenClaim.holds_of_cond 5 Tryd.f5 rfl rfl rfl rfl rfl rfl rfl ⟨rfl, rfl, rfl, rfl, rfl⟩ rfl rfl rfl rfl rfl (by kernel_rfl) Tryd.func5 (by kernel_rfl)
    (of_decide_eq_true (by kernel_rfl)) (by unfold Func.isWrapper; first | (rw [if_pos (by decide +kernel)]; kernel_rfl) | (rw [if_neg (by decide +kernel)]; exact ⟨rfl, rfl⟩))
    (fun os started H enc _ F => by rw [OpenClaim.pre_eq_preRow]; exact lifted os started H enc F)

theorem plain (f : FuncId) (fn : Func) (hf : Tryd.pinned.checked.prog.funcNamed "loop.example/g00875/laws.FnExactParseFrameText" = some f) (hfn : Tryd.pinned.checked.prog.funcs[f]? = some fn) :
    false = Tryd.pinned.checked.prog.looks [] ∧ ∀ (j : Nat) t, fn.params[j]? = some t → Tryd.pinned.checked.prog.wantsStandIn t = false := by
  obtain rfl : f = 5 := Option.some.inj ((show Tryd.prog.funcNamed "loop.example/g00875/laws.FnExactParseFrameText" = some 5 by kernel_rfl).symm.trans hf) |>.symm
  obtain rfl : fn = Tryd.f5 := (Option.some.inj (Tryd.func5.symm.trans hfn)).symm
  refine ⟨by kernel_rfl, fun j t ht => ?_⟩
  rw [Tryd.params5] at ht
  have hm := Array.mem_of_getElem? ht
  simp at hm
  obtain rfl := hm
  exact (show Tryd.prog.wantsStandIn 9 = false by kernel_rfl)

theorem proved : Rows.FnExactParseFrameTextCardSaid :=
  Claim7.holds_tied_plain_at .later [] _ _ _ _ said (fun _ h => by cases h) (by kernel_rfl) (fun _ h => by cases h) fnExactParseFrameText_row_tie rfl ⟨rfl, rfl⟩ (by kernel_rfl) rfl plain (by kernel_rfl)
#print axioms proved
end Go.Proofs.YtpjpdfannnafbaaDoor.fnExactParseFrameText
