/- impl's functions of chapter 7 on structs, without the decoding: IsValidPlace, IsValidReport, areAll at reports and places, ReportOf, PackReport. -/
import Derived.Test.YtinkkdgjpcnklaaDoorPosI
import Derived.Test.YtinkkdgjpcnklaaDoorAtS
import Derived.RegionTactic
import Derived.BigRegion
import Derived.ChangeAlike
namespace Go.Proofs.YtinkkdgjpcnklaaDoor.posj
open Go.RowKit Go.Proofs.YtinkkdgjpcnklaaDoor.pos Go.Proofs.YtinkkdgjpcnklaaDoor.in_ Go.Proofs.YtinkkdgjpcnklaaDoor.posi Go.Proofs.YtinkkdgjpcnklaaDoor.ats

theorem rB_parts (o : Bool) (a b : Int) : rB o a b = (decide (0 ≤ a) && (decide (a < sz o) && (decide (0 ≤ b) && decide (b < sz o)))) := by
  unfold rB isIn
  rw [Bool.eq_iff_iff]
  simp only [Bool.and_eq_true, decide_eq_true_eq]
  omega
theorem areAll_new (x y : Int) (W : World) (b : Nat) (hb : W.heap.size = b) :
    Calls Tryd.prog 46 #[.func (.func 52) #[] #[], .slice (some ⟨b, 0, none⟩) 2 2] (W.alloc (.cells #[.int .i64 x, .int .i64 y] 3)) fun e w' => e = .returned (.bool (pB x y)) ∧ W.alloc (.cells #[.int .i64 x, .int .i64 y] 3) = w' := by
  subst hb
  exact areAll2 x y _ _ ((newS 3 #[.int .i64 x, .int .i64 y] W).cell 0) ((newS 3 #[.int .i64 x, .int .i64 y] W).cell 1)
/-- A report, a place as values. -/
def rv (o : Bool) (a b : Int) : Value := .agg #[.bool o, .int .i64 a, .int .i64 b]
def pv (x y : Int) : Value := .agg #[.int .i64 x, .int .i64 y]

end Go.Proofs.YtinkkdgjpcnklaaDoor.posj
