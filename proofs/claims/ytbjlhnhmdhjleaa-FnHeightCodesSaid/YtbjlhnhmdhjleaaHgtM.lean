/- impl.scaleOf: the map of two kinds of heights, written out and read. -/
import Derived.Test.YtbjlhnhmdhjleaaMapL
import Derived.Test.YtbjlhnhmdhjleaaHgt
namespace Go.Proofs.Ytbjlhnhmdhjleaa.hgtm
open Go.RowKit Go.Proofs.Ytbjlhnhmdhjleaa.hgt Go.Proofs.Ytbjlhnhmdhjleaa.ats

def scale (f : Bool) : Value := .agg #[.int .i64 (lo f), .int .i64 (hi f), .int .i64 (st f)]
theorem scaleOf (f : Bool) (w : World) :
    Calls Try.prog 32 #[.bool f] w fun e w' => e = .returned (scale f) ∧ Below w.heap.size w w' := by
  have hmm := @run_makeMap Try.prog
  have h1 := mapl.put (P := Try.prog) (w.alloc (.cells #[.int .i64 0, .int .i64 0, .int .i64 0] 46)) #[] 0 true (.agg #[.int .i64 (-1000), .int .i64 50175, .int .i64 25]) Try.underlying56 Try.underlying4 rfl
  have h2 := mapl.put (P := Try.prog) (w.alloc (.cells #[.int .i64 0, .int .i64 0, .int .i64 0] 46)) #[⟨.bool true, .agg #[.int .i64 (-1000), .int .i64 50175, .int .i64 25], 0⟩] 1 false (.agg #[.int .i64 (-1200), .int .i64 126700, .int .i64 100]) Try.underlying56 Try.underlying4 rfl
  cases f
  · have h3 := mapl.get (P := Try.prog) (w.alloc (.cells #[.int .i64 0, .int .i64 0, .int .i64 0] 46)) #[⟨.bool true, .agg #[.int .i64 (-1000), .int .i64 50175, .int .i64 25], 0⟩, ⟨.bool false, .agg #[.int .i64 (-1200), .int .i64 126700, .int .i64 100], 1⟩] 2 false 1 (.agg #[.int .i64 (-1200), .int .i64 126700, .int .i64 100]) Try.underlying56 Try.underlying4 rfl
    simp only [World.size_alloc, List.push_toArray, List.nil_append, List.cons_append, Nat.reduceAdd] at h1 h2 h3
    have HE := Lib.hid ((newS 46 #[.int .i64 (-1200), .int .i64 126700, .int .i64 100] w).alloc (.map #[⟨.bool true, .agg #[.int .i64 (-1000), .int .i64 50175, .int .i64 25], 0⟩, ⟨.bool false, .agg #[.int .i64 (-1200), .int .i64 126700, .int .i64 100], 1⟩] 2))
    go_enter Try.func32, Try.ntmps32
    go_wp2_with fail
    have hl := HE.out.load Try.underlying46 rfl (by kernel_rfl)
    refine bodyPost_ret (v := .agg #[.int .i64 (-1200), .int .i64 126700, .int .i64 100]) ?_ rfl ⟨rfl, HE.out.1⟩
    rw [ats.results_cell1 rfl]
    simp [asAddr, Result.andThen, hl]
  · have h3 := mapl.get (P := Try.prog) (w.alloc (.cells #[.int .i64 0, .int .i64 0, .int .i64 0] 46)) #[⟨.bool true, .agg #[.int .i64 (-1000), .int .i64 50175, .int .i64 25], 0⟩, ⟨.bool false, .agg #[.int .i64 (-1200), .int .i64 126700, .int .i64 100], 1⟩] 2 true 0 (.agg #[.int .i64 (-1000), .int .i64 50175, .int .i64 25]) Try.underlying56 Try.underlying4 rfl
    simp only [World.size_alloc, List.push_toArray, List.nil_append, List.cons_append, Nat.reduceAdd] at h1 h2 h3
    have HE := Lib.hid ((newS 46 #[.int .i64 (-1000), .int .i64 50175, .int .i64 25] w).alloc (.map #[⟨.bool true, .agg #[.int .i64 (-1000), .int .i64 50175, .int .i64 25], 0⟩, ⟨.bool false, .agg #[.int .i64 (-1200), .int .i64 126700, .int .i64 100], 1⟩] 2))
    go_enter Try.func32, Try.ntmps32
    go_wp2_with fail
    have hl := HE.out.load Try.underlying46 rfl (by kernel_rfl)
    refine bodyPost_ret (v := .agg #[.int .i64 (-1000), .int .i64 50175, .int .i64 25]) ?_ rfl ⟨rfl, HE.out.1⟩
    rw [ats.results_cell1 rfl]
    simp [asAddr, Result.andThen, hl]
end Go.Proofs.Ytbjlhnhmdhjleaa.hgtm
