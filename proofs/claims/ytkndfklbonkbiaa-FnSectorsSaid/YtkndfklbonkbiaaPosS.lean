/- spec's functions of chapter 7 on one place or report: l7Good, IsValidPlace, l7Size, l7Report, IsValidReport, l7Of, ReportOf, l7Abs, l7Both. -/
import Derived.Test.YtkndfklbonkbiaaPosM
import Derived.Test.YtkndfklbonkbiaaIn
import Derived.BigQuiet
import Derived.Deep.QuietTactic
namespace Go.Proofs.Ytkndfklbonkbiaa.poss
open Go.RowKit Go.Proofs.Ytkndfklbonkbiaa.pos Go.Proofs.Ytkndfklbonkbiaa.in_ Go.Proofs.Ytkndfklbonkbiaa.posj Go.Proofs.Ytkndfklbonkbiaa.posm Go.Proofs.Ytkndfklbonkbiaa.ats

theorem good7 (x y : Int) (w : World) : Calls Try.prog 45 #[.agg #[.int .i64 x, .int .i64 y]] w fun e w' => e = .returned (.bool (pB x y)) ∧ Below w.heap.size w w' := by
  have H1 := Lib.hid (fun w => l1In x 0 9899 w)
  have H2 := Lib.hid (fun w => l1In y 0 9899 w)
  unfold pB
  generalize isIn x 0 9899 = p at *
  generalize isIn y 0 9899 = q at *
  cases p
  · go_enter Try.func45, Try.ntmps45
    go_wp2_with fail
    refine (H1.out _).mono ?_
    rintro e w1 ⟨rfl, rfl⟩
    go_wp2_with fail
    go_ret
    exact ⟨rfl, (Below.refl _ _).alloc (Nat.le_refl _) _⟩
  · go_enter Try.func45, Try.ntmps45
    go_wp2_with fail
    refine (H1.out _).mono ?_
    rintro e w1 ⟨rfl, rfl⟩
    go_wp2_with fail
    refine (H2.out _).mono ?_
    rintro e w1 ⟨rfl, rfl⟩
    go_wp2_with fail
    go_ret
    exact ⟨rfl, (Below.refl _ _).alloc (Nat.le_refl _) _⟩

theorem size7 (o : Bool) (w : World) : Calls Try.prog 133 #[.bool o] w fun e w' => e = .returned (.int .i64 (sz o)) ∧ w = w' := by
  cases o
  all_goals
    go_enter Try.func133, Try.ntmps133
    go_wp2
    go_ret
    exact ⟨rfl, rfl⟩
theorem report7 (o : Bool) (a b : Int) (w : World) : Calls Try.prog 131 #[.agg #[.bool o, .int .i64 a, .int .i64 b]] w fun e w' => e = .returned (.bool (rB o a b)) ∧ Below w.heap.size w w' := by
  have H0 := Lib.hid (fun w d => aid.quiet_left (size7 o (World.drewN w d)))
  have H1 := Lib.hid (fun w d => aid.quiet_left (l1In a 0 (sz o - 1) (World.drewN w d)))
  have H2 := Lib.hid (fun w d => aid.quiet_left (l1In b 0 (sz o - 1) (World.drewN w d)))
  have hs := sz_pos o
  unfold rB
  generalize sz o = s at *
  generalize isIn a 0 (s - 1) = p at *
  generalize isIn b 0 (s - 1) = q at *
  have e1 : IntKind.i64.wrap (s - 1) = s - 1 := IntWalk.i64_in _ (by omega)
  obtain ⟨s0, s1⟩ := hs
  cases p
  all_goals
    go_enter Try.func131, Try.ntmps131
    go_wp2_with fail
    go_quiet (first
      | (go_at_call 133; with_reducible exact H0.out _ _)
      | (go_at_call 85; first | (with_reducible exact H1.out _ _) | (with_reducible exact H2.out _ _)))
    go_wp2_with fail
    go_ret
    exact ⟨rfl, aid.below_drewN ((Below.refl _ _).alloc (Nat.le_refl _) _) _⟩
set_option maxRecDepth 100000 in
set_option maxHeartbeats 2000000 in
theorem of7 (x y : Int) (o : Bool) (w : World) (hx : 0 ≤ x ∧ x ≤ 9899) (hy : 0 ≤ y ∧ y ≤ 9899) :
    Calls Try.prog 109 #[.agg #[.int .i64 x, .int .i64 y], .bool o] w fun e w' => e = .returned (.agg #[.bool o, .int .i64 (x % sz o), .int .i64 (y % sz o)]) ∧ Below w.heap.size w w' := by
  have H0 := Lib.hid (fun w => flip (size7 o w))
  have hs := sz_pos o
  have A0 := Lib.hid ((newS 31 #[.int .i64 x, .int .i64 y] w).alloc (.cells #[.bool false, .int .i64 0, .int .i64 0] 68))
  have B0 := Lib.hid ((newS 31 #[.int .i64 x, .int .i64 y] w).next 68 #[.bool false, .int .i64 0, .int .i64 0])
  rw [World.size_alloc] at B0
  clear hs
  obtain ⟨x0, x1⟩ := hx
  obtain ⟨y0, y1⟩ := hy
  have t1 : x.tmod 99 = x % 99 := Int.tmod_eq_emod_of_nonneg x0
  have t2 : y.tmod 99 = y % 99 := Int.tmod_eq_emod_of_nonneg y0
  have t3 : x.tmod 100 = x % 100 := Int.tmod_eq_emod_of_nonneg x0
  have t4 : y.tmod 100 = y % 100 := Int.tmod_eq_emod_of_nonneg y0
  have v1 : IntKind.i64.wrap (x % 99) = x % 99 := IntWalk.i64_in _ (by omega)
  have v2 : IntKind.i64.wrap (y % 99) = y % 99 := IntWalk.i64_in _ (by omega)
  have v3 : IntKind.i64.wrap (x % 100) = x % 100 := IntWalk.i64_in _ (by omega)
  have v4 : IntKind.i64.wrap (y % 100) = y % 100 := IntWalk.i64_in _ (by omega)
  cases o
  · have H0 := Lib.hid (show ∀ w, Calls Try.prog 133 #[.bool false] w fun e w' => e = .returned (.int .i64 100) ∧ w' = w from H0.out)
    go_enter Try.func109, Try.ntmps109
    go_upto_region 1 with fail
    generalize (w.alloc (.cells #[.int .i64 x, .int .i64 y] 31)).alloc (.cells #[.bool false, .int .i64 0, .int .i64 0] 68) = W at *
    have a_0 : W.cell? ⟨w.heap.size, 0, none⟩ = some (.int .i64 x) := A0.out.cell 0
    have a_1 : W.cell? ⟨w.heap.size, 1, none⟩ = some (.int .i64 y) := A0.out.cell 1
    have b_0 : W.cell? ⟨w.heap.size + 1, 0, none⟩ = some (.bool false) := B0.out.cell 0
    have b_1 : W.cell? ⟨w.heap.size + 1, 1, none⟩ = some (.int .i64 0) := B0.out.cell 1
    have b_2 : W.cell? ⟨w.heap.size + 1, 2, none⟩ = some (.int .i64 0) := B0.out.cell 2
    have f_0 : W.frozen? ⟨w.heap.size + 1, 0, none⟩ = false := B0.out.frozen 0
    have f_1 : W.frozen? ⟨w.heap.size + 1, 1, none⟩ = false := B0.out.frozen 1
    have f_2 : W.frozen? ⟨w.heap.size + 1, 2, none⟩ = false := B0.out.frozen 2
    have HE := Lib.hid ((((B0.out.set 0 (.bool false)).set 1 (.int .i64 (x % 100))).set 2 (.int .i64 (y % 100))).drew)
    have A2 := (((A0.out.drew.other (b' := w.heap.size + 1) (by omega) (by omega) 0 (.bool false)).other (b' := w.heap.size + 1) (by omega) (by omega) 1 (.int .i64 (x % 100))).other (b' := w.heap.size + 1) (by omega) (by omega) 2 (.int .i64 (y % 100)))
    have K2 := Lib.hid (And.intro (A2.cell 0) (A2.cell 1))
    clear A0 B0 A2
    go_region_held3 (fun w' => w'.cell? ⟨w.heap.size, 0, none⟩ = some (.int .i64 x) ∧ w'.cell? ⟨w.heap.size, 1, none⟩ = some (.int .i64 y)) (first
      | exact ⟨a_0, a_1⟩
      | exact K2.out
      | go_keep) (first
      | (go_at_call 133; (with_reducible refine (H0.out _).mono ?_); rintro e w' ⟨rfl, rfl⟩))
    all_goals
      go_wp2_with fail
      have hl := HE.out.load Try.underlying68 rfl (by kernel_rfl)
      refine bodyPost_ret (v := .agg #[.bool false, .int .i64 (x % 100), .int .i64 (y % 100)]) ?_ rfl ⟨rfl, HE.out.1⟩
      rw [results_cell1 rfl]
      simp [asAddr, Result.andThen, hl]
  · have H0 := Lib.hid (show ∀ w, Calls Try.prog 133 #[.bool true] w fun e w' => e = .returned (.int .i64 99) ∧ w' = w from H0.out)
    go_enter Try.func109, Try.ntmps109
    go_upto_region 1 with fail
    generalize (w.alloc (.cells #[.int .i64 x, .int .i64 y] 31)).alloc (.cells #[.bool false, .int .i64 0, .int .i64 0] 68) = W at *
    have a_0 : W.cell? ⟨w.heap.size, 0, none⟩ = some (.int .i64 x) := A0.out.cell 0
    have a_1 : W.cell? ⟨w.heap.size, 1, none⟩ = some (.int .i64 y) := A0.out.cell 1
    have b_0 : W.cell? ⟨w.heap.size + 1, 0, none⟩ = some (.bool false) := B0.out.cell 0
    have b_1 : W.cell? ⟨w.heap.size + 1, 1, none⟩ = some (.int .i64 0) := B0.out.cell 1
    have b_2 : W.cell? ⟨w.heap.size + 1, 2, none⟩ = some (.int .i64 0) := B0.out.cell 2
    have f_0 : W.frozen? ⟨w.heap.size + 1, 0, none⟩ = false := B0.out.frozen 0
    have f_1 : W.frozen? ⟨w.heap.size + 1, 1, none⟩ = false := B0.out.frozen 1
    have f_2 : W.frozen? ⟨w.heap.size + 1, 2, none⟩ = false := B0.out.frozen 2
    have HE := Lib.hid ((((B0.out.set 0 (.bool true)).set 1 (.int .i64 (x % 99))).set 2 (.int .i64 (y % 99))).drew)
    have A2 := (((A0.out.drew.other (b' := w.heap.size + 1) (by omega) (by omega) 0 (.bool true)).other (b' := w.heap.size + 1) (by omega) (by omega) 1 (.int .i64 (x % 99))).other (b' := w.heap.size + 1) (by omega) (by omega) 2 (.int .i64 (y % 99)))
    have K2 := Lib.hid (And.intro (A2.cell 0) (A2.cell 1))
    clear A0 B0 A2
    go_region_held3 (fun w' => w'.cell? ⟨w.heap.size, 0, none⟩ = some (.int .i64 x) ∧ w'.cell? ⟨w.heap.size, 1, none⟩ = some (.int .i64 y)) (first
      | exact ⟨a_0, a_1⟩
      | exact K2.out
      | go_keep) (first
      | (go_at_call 133; (with_reducible refine (H0.out _).mono ?_); rintro e w' ⟨rfl, rfl⟩))
    all_goals
      go_wp2_with fail
      have hl := HE.out.load Try.underlying68 rfl (by kernel_rfl)
      refine bodyPost_ret (v := .agg #[.bool true, .int .i64 (x % 99), .int .i64 (y % 99)]) ?_ rfl ⟨rfl, HE.out.1⟩
      rw [results_cell1 rfl]
      simp [asAddr, Result.andThen, hl]
end Go.Proofs.Ytkndfklbonkbiaa.poss
