/- impl's EncodeVelocity, DecodeVelocity, DirectionOf and what they call. -/
import Derived.Test.YtglonedhoenkpaaVelI
import Derived.BigQuiet
import Derived.Deep.QuietTactic
import Derived.Laws.ResultCell
namespace Go.Proofs.Ytglonedhoenkpaa.velj
open Go.RowKit Go.Proofs.Ytglonedhoenkpaa.vel Go.Proofs.Ytglonedhoenkpaa.in_ Go.Proofs.Ytglonedhoenkpaa.ats Go.Proofs.Ytglonedhoenkpaa.veli

theorem en_no {x y : Int} (h : vB x y = false) : (Value.tuple #[.int .i64 0, .bool false]) = .tuple #[.int .i64 (enV x y), .bool (vB x y)] := by unfold enV; rw [h]; rfl
theorem en_yes {x y : Int} (h : vB x y = true) : (Value.tuple #[.int .i64 (enc x y), .bool true]) = .tuple #[.int .i64 (enV x y), .bool (vB x y)] := by unfold enV; rw [h]; rfl

theorem dc_no {n : Int} (h : dcB n = false) : (Value.tuple #[.agg #[.int .i64 0, .int .i64 0], .bool false]) = .tuple #[.agg #[.int .i64 (dcX n), .int .i64 (dcY n)], .bool (dcB n)] := by unfold dcX dcY; rw [h]; rfl
theorem dc_yes {n : Int} (h : dcB n = true) : (Value.tuple #[.agg #[.int .i64 (up (n / 8192)), .int .i64 (up (n / 4))], .bool true]) = .tuple #[.agg #[.int .i64 (dcX n), .int .i64 (dcY n)], .bool (dcB n)] := by unfold dcX dcY; rw [h]; rfl
theorem dc_is (n : Int) : dcB n = (vB (up (n / 8192)) (up (n / 4)) && decide (enV (up (n / 8192)) (up (n / 4)) = n)) := by
  unfold dcB enV
  cases h : vB (up (n / 8192)) (up (n / 4)) <;> rfl

end Go.Proofs.Ytglonedhoenkpaa.velj
