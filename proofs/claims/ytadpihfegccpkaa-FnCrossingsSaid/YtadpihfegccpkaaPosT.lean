/- spec's ReportOf, l7Abs, l7Both, DecodePair, l7Pack, PackReport, l7Unpack, UnpackReport. -/
import Derived.Test.YtadpihfegccpkaaPosS
import Derived.Test.YtadpihfegccpkaaPosK
import Derived.Test.YtadpihfegccpkaaPosL
namespace Go.Proofs.Ytadpihfegccpkaa.post
open Go.RowKit Go.Proofs.Ytadpihfegccpkaa.pos Go.Proofs.Ytadpihfegccpkaa.in_ Go.Proofs.Ytadpihfegccpkaa.posj Go.Proofs.Ytadpihfegccpkaa.posk Go.Proofs.Ytadpihfegccpkaa.posl Go.Proofs.Ytadpihfegccpkaa.posm Go.Proofs.Ytadpihfegccpkaa.poss Go.Proofs.Ytadpihfegccpkaa.ats

theorem most_neg (x : Int) (w : World) (h0 : -8000000 ≤ x) (h1 : x ≤ 8000000) :
    Calls Try.prog 88 #[.int .i64 x, .int .i64 (-x)] w fun e w' => e = .returned (.int .i64 (x.natAbs : Int)) ∧ w = w' := by
  by_cases h : 0 < x
  · have e1 : (x.natAbs : Int) = x := by omega
    rw [e1]
    have g : decide (-x < x) = true := decide_eq_true (by omega)
    clear e1
    go_enter Try.func88, Try.ntmps88
    go_wp2_with fail
    go_ret
    exact ⟨rfl, rfl⟩
  · have e1 : (x.natAbs : Int) = -x := by omega
    rw [e1]
    have g : decide (-x < x) = false := decide_eq_false (by omega)
    clear e1
    go_enter Try.func88, Try.ntmps88
    go_wp2_with fail
    go_ret
    exact ⟨rfl, rfl⟩
theorem abs7 (x : Int) (w : World) (h0 : -8000000 ≤ x) (h1 : x ≤ 8000000) :
    Calls Try.prog 81 #[.int .i64 x] w fun e w' => e = .returned (.int .i64 (x.natAbs : Int)) ∧ w = w' := by
  have H1 := Lib.hid (fun w => most_neg x w h0 h1)
  have e1 : IntKind.i64.wrap (-x) = -x := IntWalk.i64_in _ (by omega)
  generalize (x.natAbs : Int) = v at *
  go_enter Try.func81, Try.ntmps81
  go_wp2_with fail
  refine (H1.out _).mono ?_
  rintro e w1 ⟨rfl, rfl⟩
  go_wp2_with fail
  go_ret
  exact ⟨rfl, rfl⟩
theorem uk_rest {x : Int} (h0 : 0 ≤ x) (h1 : x ≤ 32767) (h : rB (decide (16384 ≤ x)) (x % 16384 / 128) (x % 128) = true) : (Value.tuple #[.agg #[.bool (decide (16384 ≤ x)), .int .i64 (x % 16384 / 128), .int .i64 (x % 128)], .bool true]) = .tuple #[.agg #[.bool (ukO x), .int .i64 (ukA x), .int .i64 (ukV x)], .bool (ukB x)] := by
  have e : ukB x = true := by unfold ukB isIn; rw [h, decide_eq_true ⟨h0, h1⟩]; rfl
  unfold ukO ukA ukV
  rw [e]; rfl
end Go.Proofs.Ytadpihfegccpkaa.post
