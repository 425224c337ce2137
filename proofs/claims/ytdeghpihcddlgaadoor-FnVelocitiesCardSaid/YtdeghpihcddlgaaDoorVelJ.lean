/- impl's EncodeVelocity, DecodeVelocity, DirectionOf and what they call. -/
import Derived.Test.YtdeghpihcddlgaaDoorVelI
import Derived.BigQuiet
import Derived.Deep.QuietTactic
import Derived.Laws.ResultCell
namespace Go.Proofs.YtdeghpihcddlgaaDoor.velj
open Go.RowKit Go.Proofs.YtdeghpihcddlgaaDoor.vel Go.Proofs.YtdeghpihcddlgaaDoor.in_ Go.Proofs.YtdeghpihcddlgaaDoor.ats Go.Proofs.YtdeghpihcddlgaaDoor.veli

theorem en_no {x y : Int} (h : vB x y = false) : (Value.tuple #[.int .i64 0, .bool false]) = .tuple #[.int .i64 (enV x y), .bool (vB x y)] := by unfold enV; rw [h]; rfl
theorem en_yes {x y : Int} (h : vB x y = true) : (Value.tuple #[.int .i64 (enc x y), .bool true]) = .tuple #[.int .i64 (enV x y), .bool (vB x y)] := by unfold enV; rw [h]; rfl

set_option maxRecDepth 100000 in
theorem encodeVelocity (x y : Int) (w : World) :
    Calls Tryd.prog 6 #[.agg #[.int .i64 x, .int .i64 y]] w
      fun e w' => e = .returned (.tuple #[.int .i64 (enV x y), .bool (vB x y)]) ∧ Below w.heap.size w w' := by
  have hv := fun w => isValidVelocity x y w
  have B0 := Lib.hid (newS 25 #[.int .i64 x, .int .i64 y] w)
  cases hb : vB x y
  · have HN := Lib.hid (en_no hb)
    rw [hb] at hv HN
    have HV := Lib.hid hv
    clear hv hb
    go_enter Tryd.func6, Tryd.ntmps6
    go_wp2_with fail
    generalize w.alloc (.cells #[.int .i64 x, .int .i64 y] 25) = W at *
    refine (HV.out _).mono ?_
    rintro e w1 ⟨rfl, hb1⟩
    have B1 := Lib.hid (B0.out.old hb1)
    clear hb1
    go_wp2_with fail
    go_ret2
    exact ⟨congrArg Ending.returned HN.out, B1.out.1⟩
  · have HN := Lib.hid (en_yes hb)
    obtain ⟨hx, hy⟩ := vB_yes hb
    have H1 := Lib.hid (fun w d => aid.quiet_left (packValue x hx (World.drewN w d)))
    have H2 := Lib.hid (fun w d => aid.quiet_left (packValue y hy (World.drewN w d)))
    obtain ⟨x0, x1⟩ := pk_in hx
    obtain ⟨y0, y1⟩ := pk_in hy
    rw [hb] at hv HN
    have HV := Lib.hid hv
    clear hv hb hx hy
    unfold enc at HN
    generalize pk x = a at *
    generalize pk y = b at *
    have e1 := or11 (a := a) (b := b) ⟨x0, by omega⟩ ⟨y0, by omega⟩
    have e2 : IntKind.i64.wrap (a * 2048) = a * 2048 := IntWalk.i64_in _ (by omega)
    have e3 : IntKind.i64.wrap ((a * 2048 + b) * 4) = (a * 2048 + b) * 4 := IntWalk.i64_in _ (by omega)
    go_enter Tryd.func6, Tryd.ntmps6
    go_wp2_with fail
    generalize w.alloc (.cells #[.int .i64 x, .int .i64 y] 25) = W at *
    refine (HV.out _).mono ?_
    rintro e w1 ⟨rfl, hb1⟩
    have B1 := Lib.hid (B0.out.old hb1)
    have c0 : w1.cell? ⟨w.heap.size, 0, none⟩ = some (.int .i64 x) := B1.out.cell 0
    have c1 : w1.cell? ⟨w.heap.size, 1, none⟩ = some (.int .i64 y) := B1.out.cell 1
    clear hb1
    go_wp2_with fail
    go_quiet (first
      | (go_at_call 22; first | (with_reducible exact H1.out _ _) | (with_reducible exact H2.out _ _)))
    go_wp2_with fail
    go_ret2
    exact ⟨congrArg Ending.returned HN.out, aid.below_drewN B1.out.1 _⟩

theorem dc_no {n : Int} (h : dcB n = false) : (Value.tuple #[.agg #[.int .i64 0, .int .i64 0], .bool false]) = .tuple #[.agg #[.int .i64 (dcX n), .int .i64 (dcY n)], .bool (dcB n)] := by unfold dcX dcY; rw [h]; rfl
theorem dc_yes {n : Int} (h : dcB n = true) : (Value.tuple #[.agg #[.int .i64 (up (n / 8192)), .int .i64 (up (n / 4))], .bool true]) = .tuple #[.agg #[.int .i64 (dcX n), .int .i64 (dcY n)], .bool (dcB n)] := by unfold dcX dcY; rw [h]; rfl
theorem dc_is (n : Int) : dcB n = (vB (up (n / 8192)) (up (n / 4)) && decide (enV (up (n / 8192)) (up (n / 4)) = n)) := by
  unfold dcB enV
  cases h : vB (up (n / 8192)) (up (n / 4)) <;> rfl

set_option maxRecDepth 100000 in
theorem decodeVelocity (n : Int) (w : World) :
    Calls Tryd.prog 15 #[.int .i64 n] w
      fun e w' => e = .returned (.tuple #[.agg #[.int .i64 (dcX n), .int .i64 (dcY n)], .bool (dcB n)]) ∧ Below w.heap.size w w' := by
  have hx := dc_is n
  have HY := Lib.hid (fun h => dc_yes (n := n) h)
  have HN := Lib.hid (fun h => dc_no (n := n) h)
  have U1 := Lib.hid (fun w => unpackValue (n / 8192) w)
  have U2 := Lib.hid (fun w => unpackValue (n / 4) w)
  have HP := Lib.hid (fun w => encodeVelocity (up (n / 8192)) (up (n / 4)) w)
  generalize up (n / 8192) = a at *
  generalize up (n / 4) = b at *
  generalize enV a b = p at *
  generalize vB a b = q at *
  generalize dcB n = r at *
  have C0 := Lib.hid ((newS 25 #[.int .i64 0, .int .i64 0] w).alloc (.cells #[.int .i64 a, .int .i64 b] 25))
  have D0 := Lib.hid ((newS 25 #[.int .i64 0, .int .i64 0] w).next 25 #[.int .i64 a, .int .i64 b])
  rw [World.size_alloc] at D0
  have HX := Lib.hid hx
  clear hx
  go_enter Tryd.func15, Tryd.ntmps15
  go_wp2_with fail
  refine (U1.out _).mono ?_
  rintro e w' ⟨rfl, rfl⟩
  go_wp2_with fail
  refine (U2.out _).mono ?_
  rintro e w' ⟨rfl, rfl⟩
  go_wp2_with fail
  generalize (w.alloc (.cells #[.int .i64 0, .int .i64 0] 25)).alloc (.cells #[.int .i64 a, .int .i64 b] 25) = W at *
  refine (HP.out _).mono ?_
  rintro e w1 ⟨rfl, hb1⟩
  have C1 := Lib.hid (C0.out.old hb1)
  have D1 := Lib.hid (D0.out.old hb1)
  have c0 : w1.cell? ⟨w.heap.size, 0, none⟩ = some (.int .i64 0) := C1.out.cell 0
  have c1 : w1.cell? ⟨w.heap.size, 1, none⟩ = some (.int .i64 0) := C1.out.cell 1
  have f0 := C1.out.frozen 0
  have f1 := C1.out.frozen 1
  have d0 : w1.cell? ⟨w.heap.size + 1, 0, none⟩ = some (.int .i64 a) := D1.out.cell 0
  have d1 : w1.cell? ⟨w.heap.size + 1, 1, none⟩ = some (.int .i64 b) := D1.out.cell 1
  clear hb1 C0 D0
  cases q
  · have HR := Lib.hid (HN.out HX.out)
    have HE := Lib.hid ((C1.out.set 0 (.int .i64 0)).set 1 (.int .i64 0))
    go_wp2_with fail
    have hl := HE.out.load Tryd.underlying25 rfl (by kernel_rfl)
    refine bodyPost_ret (v := .tuple #[.agg #[.int .i64 0, .int .i64 0], .bool false]) ?_ rfl ⟨by rw [HR.out], HE.out.1⟩
    rw [results_cell_tmp rfl]
    simp [asAddr, Result.andThen, hl]
  · by_cases hp : p = n
    · have HR := Lib.hid (HY.out (by rw [HX.out, decide_eq_true hp]; rfl))
      have HE := Lib.hid ((C1.out.set 0 (.int .i64 a)).set 1 (.int .i64 b))
      have hq : (p != n) = false := by rw [hp]; simp
      clear hp
      go_wp2_with fail
      have hl := HE.out.load Tryd.underlying25 rfl (by kernel_rfl)
      refine bodyPost_ret (v := .tuple #[.agg #[.int .i64 a, .int .i64 b], .bool true]) ?_ rfl ⟨by rw [HR.out], HE.out.1⟩
      rw [results_cell_tmp rfl]
      simp [asAddr, Result.andThen, hl]
    · have HR := Lib.hid (HN.out (by rw [HX.out, decide_eq_false hp]; rfl))
      have HE := Lib.hid ((C1.out.set 0 (.int .i64 0)).set 1 (.int .i64 0))
      have hq : (p != n) = true := by simpa using hp
      clear hp
      go_wp2_with fail
      have hl := HE.out.load Tryd.underlying25 rfl (by kernel_rfl)
      refine bodyPost_ret (v := .tuple #[.agg #[.int .i64 0, .int .i64 0], .bool false]) ?_ rfl ⟨by rw [HR.out], HE.out.1⟩
      rw [results_cell_tmp rfl]
      simp [asAddr, Result.andThen, hl]

theorem isNaN (x : Int) (w : World) :
    Calls Tryd.prog 52 #[.int .i64 x] w fun e w' => e = .returned (.bool false) ∧ w = w' := by
  have h : (x != x) = false := by simp
  go_enter Tryd.func52, Tryd.ntmps52
  go_wp2
  go_ret
  exact ⟨rfl, rfl⟩
/-- cmp.Compare with 0. -/
theorem compare0 (x : Int) (w : World) :
    Calls Tryd.prog 31 #[.int .i64 x, .int .i64 0] w fun e w' => e = .returned (.int .i64 (sg x)) ∧ w = w' := by
  have H1 := Lib.hid (fun w => isNaN x w)
  have H2 := Lib.hid (fun w => isNaN 0 w)
  unfold sg
  by_cases h1 : x < 0
  · rw [if_pos h1]
    go_enter Tryd.func31, Tryd.ntmps31
    go_wp2_with fail
    refine (H1.out _).mono ?_
    rintro e w' ⟨rfl, rfl⟩
    go_wp2_with fail
    refine (H2.out _).mono ?_
    rintro e w' ⟨rfl, rfl⟩
    go_wp2_with fail
    go_ret
    exact ⟨rfl, rfl⟩
  · have g1 : decide (x < 0) = false := decide_eq_false h1
    rw [if_neg h1]
    by_cases h2 : 0 < x
    · rw [if_pos h2]
      clear h1
      go_enter Tryd.func31, Tryd.ntmps31
      go_wp2_with fail
      refine (H1.out _).mono ?_
      rintro e w' ⟨rfl, rfl⟩
      go_wp2_with fail
      refine (H2.out _).mono ?_
      rintro e w' ⟨rfl, rfl⟩
      go_wp2_with fail
      go_ret
      exact ⟨rfl, rfl⟩
    · have g2 : decide (0 < x) = false := decide_eq_false h2
      rw [if_neg h2]
      clear h1 h2
      go_enter Tryd.func31, Tryd.ntmps31
      go_wp2_with fail
      refine (H1.out _).mono ?_
      rintro e w' ⟨rfl, rfl⟩
      go_wp2_with fail
      refine (H2.out _).mono ?_
      rintro e w' ⟨rfl, rfl⟩
      go_wp2_with fail
      go_ret
      exact ⟨rfl, rfl⟩
set_option maxHeartbeats 4000000 in
theorem directionTo (e n : Int) (he : e = -1 ∨ e = 0 ∨ e = 1) (hn : n = -1 ∨ n = 0 ∨ n = 1) (w : World) :
    Calls Tryd.prog 33 #[.int .i64 e, .int .i64 n] w fun r w' => r = .returned (.int .i64 (dt e n)) ∧ w = w' := by
  rcases he with rfl | rfl | rfl <;> rcases hn with rfl | rfl | rfl
  all_goals
    go_enter Tryd.func33, Tryd.ntmps33
    go_wp2
    go_ret
    exact ⟨rfl, rfl⟩
end Go.Proofs.YtdeghpihcddlgaaDoor.velj
