/- spec's ReportOf, l7Abs, l7Both, DecodePair, l7Pack, PackReport, l7Unpack, UnpackReport. -/
import Derived.Test.YtinkkdgjpcnklaaPosS
import Derived.Test.YtinkkdgjpcnklaaPosK
import Derived.Test.YtinkkdgjpcnklaaPosL
namespace Go.Proofs.Ytinkkdgjpcnklaa.post
open Go.RowKit Go.Proofs.Ytinkkdgjpcnklaa.pos Go.Proofs.Ytinkkdgjpcnklaa.in_ Go.Proofs.Ytinkkdgjpcnklaa.posj Go.Proofs.Ytinkkdgjpcnklaa.posk Go.Proofs.Ytinkkdgjpcnklaa.posl Go.Proofs.Ytinkkdgjpcnklaa.posm Go.Proofs.Ytinkkdgjpcnklaa.poss Go.Proofs.Ytinkkdgjpcnklaa.ats

theorem most_neg (x : Int) (w : World) (h0 : -8000000 ≤ x) (h1 : x ≤ 8000000) :
    Calls Try.prog 84 #[.int .i64 x, .int .i64 (-x)] w fun e w' => e = .returned (.int .i64 (x.natAbs : Int)) ∧ w = w' := by
  by_cases h : 0 < x
  · have e1 : (x.natAbs : Int) = x := by omega
    rw [e1]
    have g : decide (-x < x) = true := decide_eq_true (by omega)
    clear e1
    go_enter Try.func84, Try.ntmps84
    go_wp2_with fail
    go_ret
    exact ⟨rfl, rfl⟩
  · have e1 : (x.natAbs : Int) = -x := by omega
    rw [e1]
    have g : decide (-x < x) = false := decide_eq_false (by omega)
    clear e1
    go_enter Try.func84, Try.ntmps84
    go_wp2_with fail
    go_ret
    exact ⟨rfl, rfl⟩
theorem uk_rest {x : Int} (h0 : 0 ≤ x) (h1 : x ≤ 32767) (h : rB (decide (16384 ≤ x)) (x % 16384 / 128) (x % 128) = true) : (Value.tuple #[.agg #[.bool (decide (16384 ≤ x)), .int .i64 (x % 16384 / 128), .int .i64 (x % 128)], .bool true]) = .tuple #[.agg #[.bool (ukO x), .int .i64 (ukA x), .int .i64 (ukV x)], .bool (ukB x)] := by
  have e : ukB x = true := by unfold ukB isIn; rw [h, decide_eq_true ⟨h0, h1⟩]; rfl
  unfold ukO ukA ukV
  rw [e]; rfl
end Go.Proofs.Ytinkkdgjpcnklaa.post
