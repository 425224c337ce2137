/- spec's ReportOf, l7Abs, l7Both, DecodePair, l7Pack, PackReport, l7Unpack, UnpackReport. -/
import Derived.Test.YtpbopiecfnedgabPosS
import Derived.Test.YtpbopiecfnedgabPosK
import Derived.Test.YtpbopiecfnedgabPosL
namespace Go.Proofs.Ytpbopiecfnedgab.post
open Go.RowKit Go.Proofs.Ytpbopiecfnedgab.pos Go.Proofs.Ytpbopiecfnedgab.in_ Go.Proofs.Ytpbopiecfnedgab.posj Go.Proofs.Ytpbopiecfnedgab.posk Go.Proofs.Ytpbopiecfnedgab.posl Go.Proofs.Ytpbopiecfnedgab.posm Go.Proofs.Ytpbopiecfnedgab.poss Go.Proofs.Ytpbopiecfnedgab.ats

theorem most_neg (x : Int) (w : World) (h0 : -8000000 ≤ x) (h1 : x ≤ 8000000) :
    Calls Try.prog 75 #[.int .i64 x, .int .i64 (-x)] w fun e w' => e = .returned (.int .i64 (x.natAbs : Int)) ∧ w = w' := by
  by_cases h : 0 < x
  · have e1 : (x.natAbs : Int) = x := by omega
    rw [e1]
    have g : decide (-x < x) = true := decide_eq_true (by omega)
    clear e1
    go_enter Try.func75, Try.ntmps75
    go_wp2_with fail
    go_ret
    exact ⟨rfl, rfl⟩
  · have e1 : (x.natAbs : Int) = -x := by omega
    rw [e1]
    have g : decide (-x < x) = false := decide_eq_false (by omega)
    clear e1
    go_enter Try.func75, Try.ntmps75
    go_wp2_with fail
    go_ret
    exact ⟨rfl, rfl⟩
theorem abs7 (x : Int) (w : World) (h0 : -8000000 ≤ x) (h1 : x ≤ 8000000) :
    Calls Try.prog 99 #[.int .i64 x] w fun e w' => e = .returned (.int .i64 (x.natAbs : Int)) ∧ w = w' := by
  have H1 := Lib.hid (fun w => most_neg x w h0 h1)
  have e1 : IntKind.i64.wrap (-x) = -x := IntWalk.i64_in _ (by omega)
  generalize (x.natAbs : Int) = v at *
  go_enter Try.func99, Try.ntmps99
  go_wp2_with fail
  refine (H1.out _).mono ?_
  rintro e w1 ⟨rfl, rfl⟩
  go_wp2_with fail
  go_ret
  exact ⟨rfl, rfl⟩
theorem uk_rest {x : Int} (h0 : 0 ≤ x) (h1 : x ≤ 32767) (h : rB (decide (16384 ≤ x)) (x % 16384 / 128) (x % 128) = true) : (Value.tuple #[.agg #[.bool (decide (16384 ≤ x)), .int .i64 (x % 16384 / 128), .int .i64 (x % 128)], .bool true]) = .tuple #[.agg #[.bool (ukO x), .int .i64 (ukA x), .int .i64 (ukV x)], .bool (ukB x)] := by
  have e : ukB x = true := by unfold ukB isIn; rw [h, decide_eq_true ⟨h0, h1⟩]; rfl
  unfold ukO ukA ukV
  rw [e]; rfl
end Go.Proofs.Ytpbopiecfnedgab.post
