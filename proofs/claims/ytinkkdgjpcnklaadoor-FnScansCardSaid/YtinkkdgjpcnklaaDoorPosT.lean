/- spec's ReportOf, l7Abs, l7Both, DecodePair, l7Pack, PackReport, l7Unpack, UnpackReport. -/
import Derived.Test.YtinkkdgjpcnklaaDoorPosS
import Derived.Test.YtinkkdgjpcnklaaDoorPosK
import Derived.Test.YtinkkdgjpcnklaaDoorPosL
namespace Go.Proofs.YtinkkdgjpcnklaaDoor.post
open Go.RowKit Go.Proofs.YtinkkdgjpcnklaaDoor.pos Go.Proofs.YtinkkdgjpcnklaaDoor.in_ Go.Proofs.YtinkkdgjpcnklaaDoor.posj Go.Proofs.YtinkkdgjpcnklaaDoor.posk Go.Proofs.YtinkkdgjpcnklaaDoor.posl Go.Proofs.YtinkkdgjpcnklaaDoor.posm Go.Proofs.YtinkkdgjpcnklaaDoor.poss Go.Proofs.YtinkkdgjpcnklaaDoor.ats

theorem uk_rest {x : Int} (h0 : 0 ≤ x) (h1 : x ≤ 32767) (h : rB (decide (16384 ≤ x)) (x % 16384 / 128) (x % 128) = true) : (Value.tuple #[.agg #[.bool (decide (16384 ≤ x)), .int .i64 (x % 16384 / 128), .int .i64 (x % 128)], .bool true]) = .tuple #[.agg #[.bool (ukO x), .int .i64 (ukA x), .int .i64 (ukV x)], .bool (ukB x)] := by
  have e : ukB x = true := by unfold ukB isIn; rw [h, decide_eq_true ⟨h0, h1⟩]; rfl
  unfold ukO ukA ukV
  rw [e]; rfl
end Go.Proofs.YtinkkdgjpcnklaaDoor.post
