/- impl.scaleOf: the map of two kinds of heights, written out and read. -/
import Derived.Test.YtbjlhnhmdhjleaaDoorMapL
import Derived.Test.YtbjlhnhmdhjleaaDoorHgt
namespace Go.Proofs.YtbjlhnhmdhjleaaDoor.hgtm
open Go.RowKit Go.Proofs.YtbjlhnhmdhjleaaDoor.hgt Go.Proofs.YtbjlhnhmdhjleaaDoor.ats

def scale (f : Bool) : Value := .agg #[.int .i64 (lo f), .int .i64 (hi f), .int .i64 (st f)]
theorem scaleOf (f : Bool) (w : World) :
    Calls Tryd.prog 31 #[.bool f] w fun e w' => e = .returned (scale f) ∧ Below w.heap.size w w' := by
  have hmm := @run_makeMap Tryd.prog
  have h1 := mapl.put (P := Tryd.prog) (w.alloc (.cells #[.int .i64 0, .int .i64 0, .int .i64 0] 50)) #[] 0 true (.agg #[.int .i64 (-1000), .int .i64 50175, .int .i64 25]) Tryd.underlying58 Tryd.underlying4 rfl
  have h2 := mapl.put (P := Tryd.prog) (w.alloc (.cells #[.int .i64 0, .int .i64 0, .int .i64 0] 50)) #[⟨.bool true, .agg #[.int .i64 (-1000), .int .i64 50175, .int .i64 25], 0⟩] 1 false (.agg #[.int .i64 (-1200), .int .i64 126700, .int .i64 100]) Tryd.underlying58 Tryd.underlying4 rfl
  cases f
  · have h3 := mapl.get (P := Tryd.prog) (w.alloc (.cells #[.int .i64 0, .int .i64 0, .int .i64 0] 50)) #[⟨.bool true, .agg #[.int .i64 (-1000), .int .i64 50175, .int .i64 25], 0⟩, ⟨.bool false, .agg #[.int .i64 (-1200), .int .i64 126700, .int .i64 100], 1⟩] 2 false 1 (.agg #[.int .i64 (-1200), .int .i64 126700, .int .i64 100]) Tryd.underlying58 Tryd.underlying4 rfl
    simp only [World.size_alloc, List.push_toArray, List.nil_append, List.cons_append, Nat.reduceAdd] at h1 h2 h3
    have HE := Lib.hid ((newS 50 #[.int .i64 (-1200), .int .i64 126700, .int .i64 100] w).alloc (.map #[⟨.bool true, .agg #[.int .i64 (-1000), .int .i64 50175, .int .i64 25], 0⟩, ⟨.bool false, .agg #[.int .i64 (-1200), .int .i64 126700, .int .i64 100], 1⟩] 2))
    go_enter Tryd.func31, Tryd.ntmps31
    go_wp2_with fail
    have hl := HE.out.load Tryd.underlying50 rfl (by kernel_rfl)
    refine bodyPost_ret (v := .agg #[.int .i64 (-1200), .int .i64 126700, .int .i64 100]) ?_ rfl ⟨rfl, HE.out.1⟩
    rw [ats.results_cell1 rfl]
    simp [asAddr, Result.andThen, hl]
  · have h3 := mapl.get (P := Tryd.prog) (w.alloc (.cells #[.int .i64 0, .int .i64 0, .int .i64 0] 50)) #[⟨.bool true, .agg #[.int .i64 (-1000), .int .i64 50175, .int .i64 25], 0⟩, ⟨.bool false, .agg #[.int .i64 (-1200), .int .i64 126700, .int .i64 100], 1⟩] 2 true 0 (.agg #[.int .i64 (-1000), .int .i64 50175, .int .i64 25]) Tryd.underlying58 Tryd.underlying4 rfl
    simp only [World.size_alloc, List.push_toArray, List.nil_append, List.cons_append, Nat.reduceAdd] at h1 h2 h3
    have HE := Lib.hid ((newS 50 #[.int .i64 (-1000), .int .i64 50175, .int .i64 25] w).alloc (.map #[⟨.bool true, .agg #[.int .i64 (-1000), .int .i64 50175, .int .i64 25], 0⟩, ⟨.bool false, .agg #[.int .i64 (-1200), .int .i64 126700, .int .i64 100], 1⟩] 2))
    go_enter Tryd.func31, Tryd.ntmps31
    go_wp2_with fail
    have hl := HE.out.load Tryd.underlying50 rfl (by kernel_rfl)
    refine bodyPost_ret (v := .agg #[.int .i64 (-1000), .int .i64 50175, .int .i64 25]) ?_ rfl ⟨rfl, HE.out.1⟩
    rw [ats.results_cell1 rfl]
    simp [asAddr, Result.andThen, hl]
end Go.Proofs.YtbjlhnhmdhjleaaDoor.hgtm
