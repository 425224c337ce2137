/- impl's ReportOf, PackReport, UnpackReport. -/
import Derived.Test.YtkndfklbonkbiaaPosJ
namespace Go.Proofs.Ytkndfklbonkbiaa.posk
open Go.RowKit Go.Proofs.Ytkndfklbonkbiaa.pos Go.Proofs.Ytkndfklbonkbiaa.in_ Go.Proofs.Ytkndfklbonkbiaa.posi Go.Proofs.Ytkndfklbonkbiaa.posj Go.Proofs.Ytkndfklbonkbiaa.ats

theorem ro_no {x y : Int} {o : Bool} (h : pB x y = false) : (Value.tuple #[.agg #[.bool false, .int .i64 0, .int .i64 0], .bool false]) = .tuple #[.agg #[.bool (roO x y o), .int .i64 (roV x y x o), .int .i64 (roV x y y o)], .bool (pB x y)] := by unfold roO roV; rw [h]; rfl
theorem ro_yes {x y : Int} {o : Bool} (h : pB x y = true) : (Value.tuple #[.agg #[.bool o, .int .i64 (x % sz o), .int .i64 (y % sz o)], .bool true]) = .tuple #[.agg #[.bool (roO x y o), .int .i64 (roV x y x o), .int .i64 (roV x y y o)], .bool (pB x y)] := by unfold roO roV; rw [h]; rfl

end Go.Proofs.Ytkndfklbonkbiaa.posk
