/- What impl's functions of chapter 7 return at a place's own reports; the laws' vAbs. -/
import Derived.Test.YtelkflgmjfmadaaPosFit
import Derived.Test.YtelkflgmjfmadaaPosK
import Derived.Test.YtelkflgmjfmadaaPosM
import Derived.Test.YtelkflgmjfmadaaPosN
import Derived.Test.YtelkflgmjfmadaaPosQ
namespace Go.Proofs.Ytelkflgmjfmadaa.posg
open Go.RowKit Go.Proofs.Ytelkflgmjfmadaa.pos Go.Proofs.Ytelkflgmjfmadaa.posfit Go.Proofs.Ytelkflgmjfmadaa.ints

section
variable {x y : Int}
theorem own_report (o : Bool) (h : pB x y = true) : roO x y o = o ∧ roV x y x o = x % sz o ∧ roV x y y o = y % sz o := by
  obtain ⟨hx, hy⟩ := pB_yes h
  exact (ro_fit hx hy rfl rfl).2
theorem report (o : Bool) (h : pB x y = true) (w : World) :
    Calls Try.prog 9 #[.agg #[.int .i64 x, .int .i64 y], .bool o] w fun e w' => e = .returned (.tuple #[.agg #[.bool o, .int .i64 (x % sz o), .int .i64 (y % sz o)], .bool true]) ∧ Below w.heap.size w w' := by
  have hr := posk.reportOf x y o w
  obtain ⟨e1, e2, e3⟩ := own_report o h
  rw [e1, e2, e3, h] at hr
  exact hr
theorem pair (h : pB x y = true) (w : World) :
    Calls Try.prog 12 #[.agg #[.bool false, .int .i64 (x % 100), .int .i64 (y % 100)], .agg #[.bool true, .int .i64 (x % 99), .int .i64 (y % 99)]] w fun e w' => e = .returned (.tuple #[.agg #[.int .i64 x, .int .i64 y], .bool true]) ∧ Below w.heap.size w w' := by
  have hr := posm.decodePair false (x % 100) (y % 100) true (x % 99) (y % 99) w
  have ow := posfit.own true h
  rw [ow.pe, ow.px, ow.py] at hr
  exact hr
theorem near (o : Bool) (h : pB x y = true) (w : World) :
    Calls Try.prog 13 #[.agg #[.bool o, .int .i64 (x % sz o), .int .i64 (y % sz o)], .agg #[.int .i64 x, .int .i64 y]] w fun e w' => e = .returned (.tuple #[.agg #[.int .i64 x, .int .i64 y], .bool true]) ∧ Below w.heap.size w w' := by
  have hr := posn.decodeNear o (x % sz o) (y % sz o) x y w
  have ow := posfit.own o h
  rw [ow.nb, ow.nx, ow.ny] at hr
  exact hr
theorem moved (o : Bool) (h : pB x y = true) (w : World) :
    Calls Try.prog 14 #[.agg #[.bool o, .int .i64 (x % sz o), .int .i64 (y % sz o)], .agg #[.bool (!o), .int .i64 (x % sz (!o)), .int .i64 (y % sz (!o))], .int .i64 0] w
      fun e w' => ∃ v, e = .returned (.tuple #[v, .bool true]) ∧ w'.ownsRow w.heap.size 25 2 v 1 (cellsI [x, y]) ∧ Below w.heap.size w w' := by
  have hr := posq.decodeMoved o (x % sz o) (y % sz o) (!o) (x % sz (!o)) (y % sz (!o)) 0 w
  have ow := posfit.own o h
  rw [ow.mb, ow.mn, ow.mv] at hr
  exact hr
end
theorem vAbs (x : Int) (w : World) (h0 : -8000000 ≤ x) (h1 : x ≤ 8000000) :
    Calls Try.prog 18 #[.int .i64 x] w fun e w' => e = .returned (.int .i64 (x.natAbs : Int)) ∧ w = w' := by
  by_cases h : x < 0
  · rw [show (x.natAbs : Int) = -x by omega]
    go_enter Try.func18, Try.ntmps18
    go_wp2
    go_ret
    exact ⟨rfl, rfl⟩
  · have g : decide (x < 0) = false := decide_eq_false h
    rw [show (x.natAbs : Int) = x by omega]
    go_enter Try.func18, Try.ntmps18
    go_wp2
    go_ret
    exact ⟨rfl, rfl⟩
end Go.Proofs.Ytelkflgmjfmadaa.posg
