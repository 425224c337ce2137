/- spec's DecodeVelocity. -/
import Derived.Test.YtdeghpihcddlgaaDoorVelT
import Derived.Test.YtdeghpihcddlgaaDoorVelC
namespace Go.Proofs.YtdeghpihcddlgaaDoor.velu
open Go.RowKit Go.Proofs.YtdeghpihcddlgaaDoor.vel Go.Proofs.YtdeghpihcddlgaaDoor.in_ Go.Proofs.YtdeghpihcddlgaaDoor.ats Go.Proofs.YtdeghpihcddlgaaDoor.veli Go.Proofs.YtdeghpihcddlgaaDoor.velj Go.Proofs.YtdeghpihcddlgaaDoor.vels Go.Proofs.YtdeghpihcddlgaaDoor.velb Go.Proofs.YtdeghpihcddlgaaDoor.velc Go.Proofs.YtdeghpihcddlgaaDoor.velt Go.Proofs.YtdeghpihcddlgaaDoor.bin Go.Proofs.YtdeghpihcddlgaaDoor.good_

theorem flip {f : FuncId} {args : Array Value} {v : Value} {w : World} (h : Calls Tryd.prog f args w (fun e w' => e = .returned v ∧ w = w')) : Calls Tryd.prog f args w (fun e w' => e = .returned v ∧ w' = w) := h.mono fun _ _ h => ⟨h.1, h.2.symm⟩
theorem byte_eq {c : UInt8} {m : Nat} (h : c = ch (m % 2)) : ((c.toNat : Int) == 49) = decide (m % 2 = 1) := by
  have h2 := (ch49 m).1
  rw [← h] at h2
  rw [Bool.eq_iff_iff, beq_iff_eq, decide_eq_true_eq, ← h2]
  omega

set_option maxRecDepth 100000 in
set_option maxHeartbeats 8000000 in
theorem decodeVelocity (n : Int) (w : World) :
    Calls Tryd.prog 18 #[.int .i64 n] w
      fun e w' => e = .returned (.tuple #[.agg #[.int .i64 (dcX n), .int .i64 (dcY n)], .bool (dcB n)]) ∧ Below w.heap.size w w' := by
  have h0 := fun w => l1In n 0 16777215 w
  have HY := fun h => dc_yes (n := n) h
  have HN := Lib.hid (fun h => dc_no (n := n) h)
  have Z0 := Lib.hid (newS 25 #[.int .i64 0, .int .i64 0] w)
  cases hi : isIn n 0 16777215
  · have HR := Lib.hid (HN.out (by
      cases h : dcB n
      · rfl
      · have := dc_in h
        unfold isIn at hi
        rw [decide_eq_true this] at hi
        cases hi))
    rw [hi] at h0
    have H0 := Lib.hid h0
    have HE := Lib.hid ((Z0.out.set 0 (.int .i64 0)).set 1 (.int .i64 0))
    clear h0 HY HN hi
    go_enter Tryd.func18, Tryd.ntmps18
    go_wp2_with fail
    refine (H0.out _).mono ?_
    rintro e w' ⟨rfl, rfl⟩
    go_wp2_with fail
    have hl := Z0.out.load Tryd.underlying25 rfl (by kernel_rfl)
    refine bodyPost_ret (v := .tuple #[.agg #[.int .i64 0, .int .i64 0], .bool false]) ?_ rfl ⟨by rw [HR.out], Z0.out.1⟩
    rw [results_cell_tmp rfl]
    simp [asAddr, Result.andThen, hl]
  · have hr : 0 ≤ n ∧ n ≤ 16777215 := of_decide_eq_true hi
    obtain ⟨k, rfl⟩ := Int.eq_ofNat_of_zero_le hr.1
    rw [hi] at h0
    have H0 := Lib.hid h0
    have hx := dc_is (k : Int)
    rw [up_a, up_b] at hx HY
    have H1 := Lib.hid (show ∀ w, Calls Tryd.prog 44 #[.int .i64 (k : Int), .int .i64 24] w fun e w' => e = .returned (.string (tx k)) ∧ w = w' from fun w => ofN k 24 w (by omega) (by omega))
    have hz := tx_size k
    have N1 := fun w => flip (number ((tx k).extract 1 11) w (by rw [sub_size _ _ _ (by omega)]; omega) (sub_ok (tx_ok k) _ _))
    have N2 := fun w => flip (number ((tx k).extract 12 22) w (by rw [sub_size _ _ _ (by omega)]; omega) (sub_ok (tx_ok k) _ _))
    rw [tx_a] at N1
    rw [tx_b] at N2
    have l0 : 0 < (tx k).size := by omega
    have l11 : 11 < (tx k).size := by omega
    have b1 := byte_eq (tx_at k 0 (by omega) l0)
    have b2 := byte_eq (tx_at k 11 (by omega) l11)
    rw [show 23 - 0 = 23 from rfl] at b1
    rw [show 23 - 11 = 12 from rfl] at b2
    have a1 : k / 8192 % 1024 < 1024 := Nat.mod_lt _ (by omega)
    have a2 : k / 4 % 1024 < 1024 := Nat.mod_lt _ (by omega)
    have hs1 : (11 : Int) ≤ ((tx k).size : Int) := by omega
    have hs2 : (22 : Int) ≤ ((tx k).size : Int) := by omega
    have hs0 : (0 : Int) < ((tx k).size : Int) := by omega
    have hs3 : (11 : Int) < ((tx k).size : Int) := by omega
    have ha0 : 0 ≤ ((k / 8192 % 1024 : Nat) : Int) := by omega
    have ha1 : ((k / 8192 % 1024 : Nat) : Int) < 1024 := by omega
    have hb0 : 0 ≤ ((k / 4 % 1024 : Nat) : Int) := by omega
    have hb1 : ((k / 4 % 1024 : Nat) : Int) < 1024 := by omega
    generalize ((k / 8192 % 1024 : Nat) : Int) = a at *
    generalize ((k / 4 % 1024 : Nat) : Int) = b at *
    have N1 := Lib.hid N1
    have N2 := Lib.hid N2
    have K1 := Lib.hid (((newS 25 #[.int .i64 0, .int .i64 0] w)).alloc (.cells #[.int .i64 a, .int .i64 b] 25))
    have K2 := Lib.hid ((newS 25 #[.int .i64 0, .int .i64 0] w).next 25 #[.int .i64 a, .int .i64 b])
    rw [World.size_alloc] at K2
    have HZ := Lib.hid (show (w.alloc (.cells #[.int .i64 0, .int .i64 0] 25)).heap.size = w.heap.size + 1 by rw [World.size_alloc])
    clear hz a1 a2 h0 hi
    generalize tx k = s at *
    go_enter Tryd.func18, Tryd.ntmps18
    go_wp2_with fail
    refine (H0.out _).mono ?_
    rintro e w' ⟨rfl, rfl⟩
    go_wp2_with fail
    refine (H1.out _).mono ?_
    rintro e w' ⟨rfl, rfl⟩
    go_upto_region 4 with fail
    have CN := Lib.hid (show (w.alloc (.cells #[.int .i64 0, .int .i64 0] 25)).heap.size = w.heap.size + 1 by rw [World.size_alloc])
    generalize w.alloc (.cells #[.int .i64 0, .int .i64 0] 25) = W at *
    go_cut [5] from 14 to 20 (fun p wx => p = .pointer (some ⟨w.heap.size + 1, 0, none⟩) ∧ AtS 25 #[.int .i64 0, .int .i64 0] w wx w.heap.size ∧ AtS 25 #[.int .i64 a, .int .i64 b] w wx (w.heap.size + 1))
    case first =>
      go_region_held3 (fun _ => True) (trivial) (first
        | (go_at_call 25; (with_reducible refine (N1.out _).mono ?_); rintro e w' ⟨rfl, rfl⟩)
        | (go_at_call 25; (with_reducible refine (N2.out _).mono ?_); rintro e w' ⟨rfl, rfl⟩))
      all_goals (go_wp2_with fail; go_meet; exact ⟨by rw [CN.out], K1.out.drew, K2.out.drew⟩)
    case rest =>
      obtain ⟨rfl, hZ, hS⟩ := hcut
      have S1 := Lib.hid hS
      have Z1 := Lib.hid hZ
      clear hZ hS K1 K2 HZ CN Z0
      have c0 : wc.cell? ⟨w.heap.size + 1, 0, none⟩ = some (.int .i64 a) := S1.out.cell 0
      have c1 : wc.cell? ⟨w.heap.size + 1, 1, none⟩ = some (.int .i64 b) := S1.out.cell 1
      have f0 := S1.out.frozen 0
      have f1 := S1.out.frozen 1
      by_cases hA : k / 2 ^ 23 % 2 = 1
      · rw [if_pos hA] at hx HY
        rw [decide_eq_true hA] at b1
        clear hA
        by_cases hB : k / 2 ^ 12 % 2 = 1
        · rw [if_pos hB] at hx HY
          rw [decide_eq_true hB] at b2
          clear hB
          have HX := Lib.hid hx
          have HY := Lib.hid HY
          have EV := Lib.hid (fun w => velt.encodeVelocity (-a) (-b) w)
          clear hx
          generalize enV (-a) (-b) = p at *
          generalize vB (-a) (-b) = q at *
          go_wp2_with fail
          have S := Lib.hid ((S1.out.set 0 (.int .i64 (-a))).set 1 (.int .i64 (-b)))
          have Z := Lib.hid ((Z1.out.other (b' := w.heap.size + 1) (Nat.le_succ _) (by omega) 0 (.int .i64 (-a))).other (b' := w.heap.size + 1) (Nat.le_succ _) (by omega) 1 (.int .i64 (-b)))
          generalize ((wc.setCell ⟨w.heap.size + 1, 0, none⟩ (.int .i64 (-a))).setCell ⟨w.heap.size + 1, 1, none⟩ (.int .i64 (-b))) = wd at *
          go_wp2_with fail
          refine (EV.out _).mono ?_
          rintro e w9 ⟨rfl, hb9⟩
          have Z9 := Lib.hid (Z.out.old hb9)
          have S9 := Lib.hid (S.out.old hb9)
          clear hb9 Z S c0 c1 f0 f1
          have z_0 : w9.cell? ⟨w.heap.size, 0, none⟩ = some (.int .i64 0) := Z9.out.cell 0
          have z_1 : w9.cell? ⟨w.heap.size, 1, none⟩ = some (.int .i64 0) := Z9.out.cell 1
          have f_0 := Z9.out.frozen 0
          have f_1 := Z9.out.frozen 1
          have s_0 : w9.cell? ⟨w.heap.size + 1, 0, none⟩ = some (.int .i64 (-a)) := S9.out.cell 0
          have s_1 : w9.cell? ⟨w.heap.size + 1, 1, none⟩ = some (.int .i64 (-b)) := S9.out.cell 1
          cases q
          · have HR := Lib.hid (HN.out (by rw [HX.out]; rfl))
            have HE := Lib.hid ((Z9.out.set 0 (.int .i64 0)).set 1 (.int .i64 0))
            go_wp2_with fail
            have hl := HE.out.load Tryd.underlying25 rfl (by kernel_rfl)
            refine bodyPost_ret (v := .tuple #[.agg #[.int .i64 0, .int .i64 0], .bool false]) ?_ rfl ⟨by rw [HR.out], HE.out.1⟩
            rw [results_cell_tmp rfl]
            simp [asAddr, Result.andThen, hl]
          · by_cases hp : p = (k : Int)
            · have HR := Lib.hid (HY.out (by rw [HX.out, decide_eq_true hp]; rfl))
              have hq : (p != (k : Int)) = false := by rw [hp]; simp
              clear hp
              have HE := Lib.hid ((Z9.out.set 0 (.int .i64 (-a))).set 1 (.int .i64 (-b)))
              go_wp2_with fail
              have hl := HE.out.load Tryd.underlying25 rfl (by kernel_rfl)
              refine bodyPost_ret (v := .tuple #[.agg #[.int .i64 (-a), .int .i64 (-b)], .bool true]) ?_ rfl ⟨by rw [HR.out], HE.out.1⟩
              rw [results_cell_tmp rfl]
              simp [asAddr, Result.andThen, hl]
            · have HR := Lib.hid (HN.out (by rw [HX.out, decide_eq_false hp]; rfl))
              have hq : (p != (k : Int)) = true := by simpa using hp
              clear hp
              have HE := Lib.hid ((Z9.out.set 0 (.int .i64 0)).set 1 (.int .i64 0))
              go_wp2_with fail
              have hl := HE.out.load Tryd.underlying25 rfl (by kernel_rfl)
              refine bodyPost_ret (v := .tuple #[.agg #[.int .i64 0, .int .i64 0], .bool false]) ?_ rfl ⟨by rw [HR.out], HE.out.1⟩
              rw [results_cell_tmp rfl]
              simp [asAddr, Result.andThen, hl]
        · rw [if_neg hB] at hx HY
          rw [decide_eq_false hB] at b2
          clear hB
          have HX := Lib.hid hx
          have HY := Lib.hid HY
          have EV := Lib.hid (fun w => velt.encodeVelocity (-a) b w)
          clear hx
          generalize enV (-a) b = p at *
          generalize vB (-a) b = q at *
          go_wp2_with fail
          have S := Lib.hid (S1.out.set 0 (.int .i64 (-a)))
          have Z := Lib.hid (Z1.out.other (b' := w.heap.size + 1) (Nat.le_succ _) (by omega) 0 (.int .i64 (-a)))
          generalize (wc.setCell ⟨w.heap.size + 1, 0, none⟩ (.int .i64 (-a))) = wd at *
          go_wp2_with fail
          refine (EV.out _).mono ?_
          rintro e w9 ⟨rfl, hb9⟩
          have Z9 := Lib.hid (Z.out.old hb9)
          have S9 := Lib.hid (S.out.old hb9)
          clear hb9 Z S c0 c1 f0 f1
          have z_0 : w9.cell? ⟨w.heap.size, 0, none⟩ = some (.int .i64 0) := Z9.out.cell 0
          have z_1 : w9.cell? ⟨w.heap.size, 1, none⟩ = some (.int .i64 0) := Z9.out.cell 1
          have f_0 := Z9.out.frozen 0
          have f_1 := Z9.out.frozen 1
          have s_0 : w9.cell? ⟨w.heap.size + 1, 0, none⟩ = some (.int .i64 (-a)) := S9.out.cell 0
          have s_1 : w9.cell? ⟨w.heap.size + 1, 1, none⟩ = some (.int .i64 b) := S9.out.cell 1
          cases q
          · have HR := Lib.hid (HN.out (by rw [HX.out]; rfl))
            have HE := Lib.hid ((Z9.out.set 0 (.int .i64 0)).set 1 (.int .i64 0))
            go_wp2_with fail
            have hl := HE.out.load Tryd.underlying25 rfl (by kernel_rfl)
            refine bodyPost_ret (v := .tuple #[.agg #[.int .i64 0, .int .i64 0], .bool false]) ?_ rfl ⟨by rw [HR.out], HE.out.1⟩
            rw [results_cell_tmp rfl]
            simp [asAddr, Result.andThen, hl]
          · by_cases hp : p = (k : Int)
            · have HR := Lib.hid (HY.out (by rw [HX.out, decide_eq_true hp]; rfl))
              have hq : (p != (k : Int)) = false := by rw [hp]; simp
              clear hp
              have HE := Lib.hid ((Z9.out.set 0 (.int .i64 (-a))).set 1 (.int .i64 b))
              go_wp2_with fail
              have hl := HE.out.load Tryd.underlying25 rfl (by kernel_rfl)
              refine bodyPost_ret (v := .tuple #[.agg #[.int .i64 (-a), .int .i64 b], .bool true]) ?_ rfl ⟨by rw [HR.out], HE.out.1⟩
              rw [results_cell_tmp rfl]
              simp [asAddr, Result.andThen, hl]
            · have HR := Lib.hid (HN.out (by rw [HX.out, decide_eq_false hp]; rfl))
              have hq : (p != (k : Int)) = true := by simpa using hp
              clear hp
              have HE := Lib.hid ((Z9.out.set 0 (.int .i64 0)).set 1 (.int .i64 0))
              go_wp2_with fail
              have hl := HE.out.load Tryd.underlying25 rfl (by kernel_rfl)
              refine bodyPost_ret (v := .tuple #[.agg #[.int .i64 0, .int .i64 0], .bool false]) ?_ rfl ⟨by rw [HR.out], HE.out.1⟩
              rw [results_cell_tmp rfl]
              simp [asAddr, Result.andThen, hl]
      · rw [if_neg hA] at hx HY
        rw [decide_eq_false hA] at b1
        clear hA
        by_cases hB : k / 2 ^ 12 % 2 = 1
        · rw [if_pos hB] at hx HY
          rw [decide_eq_true hB] at b2
          clear hB
          have HX := Lib.hid hx
          have HY := Lib.hid HY
          have EV := Lib.hid (fun w => velt.encodeVelocity a (-b) w)
          clear hx
          generalize enV a (-b) = p at *
          generalize vB a (-b) = q at *
          go_wp2_with fail
          have S := Lib.hid (S1.out.set 1 (.int .i64 (-b)))
          have Z := Lib.hid (Z1.out.other (b' := w.heap.size + 1) (Nat.le_succ _) (by omega) 1 (.int .i64 (-b)))
          generalize (wc.setCell ⟨w.heap.size + 1, 1, none⟩ (.int .i64 (-b))) = wd at *
          go_wp2_with fail
          refine (EV.out _).mono ?_
          rintro e w9 ⟨rfl, hb9⟩
          have Z9 := Lib.hid (Z.out.old hb9)
          have S9 := Lib.hid (S.out.old hb9)
          clear hb9 Z S c0 c1 f0 f1
          have z_0 : w9.cell? ⟨w.heap.size, 0, none⟩ = some (.int .i64 0) := Z9.out.cell 0
          have z_1 : w9.cell? ⟨w.heap.size, 1, none⟩ = some (.int .i64 0) := Z9.out.cell 1
          have f_0 := Z9.out.frozen 0
          have f_1 := Z9.out.frozen 1
          have s_0 : w9.cell? ⟨w.heap.size + 1, 0, none⟩ = some (.int .i64 a) := S9.out.cell 0
          have s_1 : w9.cell? ⟨w.heap.size + 1, 1, none⟩ = some (.int .i64 (-b)) := S9.out.cell 1
          cases q
          · have HR := Lib.hid (HN.out (by rw [HX.out]; rfl))
            have HE := Lib.hid ((Z9.out.set 0 (.int .i64 0)).set 1 (.int .i64 0))
            go_wp2_with fail
            have hl := HE.out.load Tryd.underlying25 rfl (by kernel_rfl)
            refine bodyPost_ret (v := .tuple #[.agg #[.int .i64 0, .int .i64 0], .bool false]) ?_ rfl ⟨by rw [HR.out], HE.out.1⟩
            rw [results_cell_tmp rfl]
            simp [asAddr, Result.andThen, hl]
          · by_cases hp : p = (k : Int)
            · have HR := Lib.hid (HY.out (by rw [HX.out, decide_eq_true hp]; rfl))
              have hq : (p != (k : Int)) = false := by rw [hp]; simp
              clear hp
              have HE := Lib.hid ((Z9.out.set 0 (.int .i64 a)).set 1 (.int .i64 (-b)))
              go_wp2_with fail
              have hl := HE.out.load Tryd.underlying25 rfl (by kernel_rfl)
              refine bodyPost_ret (v := .tuple #[.agg #[.int .i64 a, .int .i64 (-b)], .bool true]) ?_ rfl ⟨by rw [HR.out], HE.out.1⟩
              rw [results_cell_tmp rfl]
              simp [asAddr, Result.andThen, hl]
            · have HR := Lib.hid (HN.out (by rw [HX.out, decide_eq_false hp]; rfl))
              have hq : (p != (k : Int)) = true := by simpa using hp
              clear hp
              have HE := Lib.hid ((Z9.out.set 0 (.int .i64 0)).set 1 (.int .i64 0))
              go_wp2_with fail
              have hl := HE.out.load Tryd.underlying25 rfl (by kernel_rfl)
              refine bodyPost_ret (v := .tuple #[.agg #[.int .i64 0, .int .i64 0], .bool false]) ?_ rfl ⟨by rw [HR.out], HE.out.1⟩
              rw [results_cell_tmp rfl]
              simp [asAddr, Result.andThen, hl]
        · rw [if_neg hB] at hx HY
          rw [decide_eq_false hB] at b2
          clear hB
          have HX := Lib.hid hx
          have HY := Lib.hid HY
          have EV := Lib.hid (fun w => velt.encodeVelocity a b w)
          clear hx
          generalize enV a b = p at *
          generalize vB a b = q at *
          go_wp2_with fail
          have S := Lib.hid S1.out
          have Z := Lib.hid Z1.out
          go_wp2_with fail
          refine (EV.out _).mono ?_
          rintro e w9 ⟨rfl, hb9⟩
          have Z9 := Lib.hid (Z.out.old hb9)
          have S9 := Lib.hid (S.out.old hb9)
          clear hb9 Z S c0 c1 f0 f1
          have z_0 : w9.cell? ⟨w.heap.size, 0, none⟩ = some (.int .i64 0) := Z9.out.cell 0
          have z_1 : w9.cell? ⟨w.heap.size, 1, none⟩ = some (.int .i64 0) := Z9.out.cell 1
          have f_0 := Z9.out.frozen 0
          have f_1 := Z9.out.frozen 1
          have s_0 : w9.cell? ⟨w.heap.size + 1, 0, none⟩ = some (.int .i64 a) := S9.out.cell 0
          have s_1 : w9.cell? ⟨w.heap.size + 1, 1, none⟩ = some (.int .i64 b) := S9.out.cell 1
          cases q
          · have HR := Lib.hid (HN.out (by rw [HX.out]; rfl))
            have HE := Lib.hid ((Z9.out.set 0 (.int .i64 0)).set 1 (.int .i64 0))
            go_wp2_with fail
            have hl := HE.out.load Tryd.underlying25 rfl (by kernel_rfl)
            refine bodyPost_ret (v := .tuple #[.agg #[.int .i64 0, .int .i64 0], .bool false]) ?_ rfl ⟨by rw [HR.out], HE.out.1⟩
            rw [results_cell_tmp rfl]
            simp [asAddr, Result.andThen, hl]
          · by_cases hp : p = (k : Int)
            · have HR := Lib.hid (HY.out (by rw [HX.out, decide_eq_true hp]; rfl))
              have hq : (p != (k : Int)) = false := by rw [hp]; simp
              clear hp
              have HE := Lib.hid ((Z9.out.set 0 (.int .i64 a)).set 1 (.int .i64 b))
              go_wp2_with fail
              have hl := HE.out.load Tryd.underlying25 rfl (by kernel_rfl)
              refine bodyPost_ret (v := .tuple #[.agg #[.int .i64 a, .int .i64 b], .bool true]) ?_ rfl ⟨by rw [HR.out], HE.out.1⟩
              rw [results_cell_tmp rfl]
              simp [asAddr, Result.andThen, hl]
            · have HR := Lib.hid (HN.out (by rw [HX.out, decide_eq_false hp]; rfl))
              have hq : (p != (k : Int)) = true := by simpa using hp
              clear hp
              have HE := Lib.hid ((Z9.out.set 0 (.int .i64 0)).set 1 (.int .i64 0))
              go_wp2_with fail
              have hl := HE.out.load Tryd.underlying25 rfl (by kernel_rfl)
              refine bodyPost_ret (v := .tuple #[.agg #[.int .i64 0, .int .i64 0], .bool false]) ?_ rfl ⟨by rw [HR.out], HE.out.1⟩
              rw [results_cell_tmp rfl]
              simp [asAddr, Result.andThen, hl]

end Go.Proofs.YtdeghpihcddlgaaDoor.velu
