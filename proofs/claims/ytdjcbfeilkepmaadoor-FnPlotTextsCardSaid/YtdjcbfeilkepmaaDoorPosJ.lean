/- impl's functions of chapter 7 on structs, without the decoding: IsValidPlace, IsValidReport, areAll at reports and places, ReportOf, PackReport. -/
import Derived.Test.YtdjcbfeilkepmaaDoorPosI
import Derived.Test.YtdjcbfeilkepmaaDoorAtS
import Derived.RegionTactic
import Derived.BigRegion
import Derived.ChangeAlike
namespace Go.Proofs.YtdjcbfeilkepmaaDoor.posj
open Go.RowKit Go.Proofs.YtdjcbfeilkepmaaDoor.pos Go.Proofs.YtdjcbfeilkepmaaDoor.in_ Go.Proofs.YtdjcbfeilkepmaaDoor.posi Go.Proofs.YtdjcbfeilkepmaaDoor.ats

theorem rB_parts (o : Bool) (a b : Int) : rB o a b = (decide (0 ≤ a) && (decide (a < sz o) && (decide (0 ≤ b) && decide (b < sz o)))) := by
  unfold rB isIn
  rw [Bool.eq_iff_iff]
  simp only [Bool.and_eq_true, decide_eq_true_eq]
  omega
theorem areAll_new (x y : Int) (W : World) (b : Nat) (hb : W.heap.size = b) :
    Calls Tryd.prog 70 #[.func (.func 71) #[] #[], .slice (some ⟨b, 0, none⟩) 2 2] (W.alloc (.cells #[.int .i64 x, .int .i64 y] 3)) fun e w' => e = .returned (.bool (pB x y)) ∧ W.alloc (.cells #[.int .i64 x, .int .i64 y] 3) = w' := by
  subst hb
  exact areAll2 x y _ _ ((newS 3 #[.int .i64 x, .int .i64 y] W).cell 0) ((newS 3 #[.int .i64 x, .int .i64 y] W).cell 1)
/-- A report, a place as values. -/
def rv (o : Bool) (a b : Int) : Value := .agg #[.bool o, .int .i64 a, .int .i64 b]
def pv (x y : Int) : Value := .agg #[.int .i64 x, .int .i64 y]

theorem isValidPlace (x y : Int) (w : World) :
    Calls Tryd.prog 37 #[.agg #[.int .i64 x, .int .i64 y]] w fun e w' => e = .returned (.bool (pB x y)) ∧ Below w.heap.size w w' := by
  have S := Lib.hid (fun (W : World) (b : Nat) (hb : W.heap.size = b) => areAll_new x y W b hb)
  have B0 := Lib.hid (newS 25 #[.int .i64 x, .int .i64 y] w)
  have HZ := Lib.hid (show (w.alloc (.cells #[.int .i64 x, .int .i64 y] 25)).heap.size = w.heap.size + 1 by rw [World.size_alloc])
  generalize pB x y = p at *
  go_enter Tryd.func37, Tryd.ntmps37
  go_wp2_with fail
  generalize w.alloc (.cells #[.int .i64 x, .int .i64 y] 25) = W at *
  have HB := Lib.hid (B0.out.1.trans ((newS 3 #[.int .i64 x, .int .i64 y] W).1.mono B0.out.1.size))
  refine (S.out W _ HZ.out).mono ?_
  rintro e w1 ⟨rfl, rfl⟩
  go_wp2_with fail
  go_ret
  exact ⟨rfl, HB.out⟩

end Go.Proofs.YtdjcbfeilkepmaaDoor.posj
