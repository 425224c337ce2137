/- impl's DecodePair. -/
import Derived.Test.YtkndfklbonkbiaaPosJ
import Derived.Deep.RegionHeld3
import Derived.Deep.CutRange
namespace Go.Proofs.Ytkndfklbonkbiaa.posm
open Go.RowKit Go.Proofs.Ytkndfklbonkbiaa.pos Go.Proofs.Ytkndfklbonkbiaa.in_ Go.Proofs.Ytkndfklbonkbiaa.posi Go.Proofs.Ytkndfklbonkbiaa.posj Go.Proofs.Ytkndfklbonkbiaa.ats

theorem flip {f : FuncId} {args : Array Value} {v : Value} {w : World} (h : Calls Try.prog f args w (fun e w' => e = .returned v ∧ w = w')) : Calls Try.prog f args w (fun e w' => e = .returned v ∧ w' = w) := h.mono fun _ _ h => ⟨h.1, h.2.symm⟩
theorem dp_no {o1 : Bool} {a1 b1 : Int} {o2 : Bool} {a2 b2 : Int} (h : dpB o1 a1 b1 o2 a2 b2 = false) : (Value.tuple #[.agg #[.int .i64 0, .int .i64 0], .bool false]) = .tuple #[.agg #[.int .i64 (dpV o1 a1 b1 o2 a2 b2 a1 a2), .int .i64 (dpV o1 a1 b1 o2 a2 b2 b1 b2)], .bool (dpB o1 a1 b1 o2 a2 b2)] := by unfold dpV; rw [h]; rfl
theorem dp_yes {o1 : Bool} {a1 b1 : Int} {o2 : Bool} {a2 b2 : Int} (h : dpB o1 a1 b1 o2 a2 b2 = true) : (Value.tuple #[.agg #[.int .i64 (both a1 a2), .int .i64 (both b1 b2)], .bool true]) = .tuple #[.agg #[.int .i64 (dpV o1 a1 b1 o2 a2 b2 a1 a2), .int .i64 (dpV o1 a1 b1 o2 a2 b2 b1 b2)], .bool (dpB o1 a1 b1 o2 a2 b2)] := by unfold dpV; rw [h]; rfl

end Go.Proofs.Ytkndfklbonkbiaa.posm
