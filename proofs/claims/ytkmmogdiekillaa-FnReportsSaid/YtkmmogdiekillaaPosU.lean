/- spec's l1Most, l7Nearest, l7Within, DecodePair. -/
import Derived.Test.YtkmmogdiekillaaPosT
namespace Go.Proofs.Ytkmmogdiekillaa.posu
open Go.RowKit Go.Proofs.Ytkmmogdiekillaa.pos Go.Proofs.Ytkmmogdiekillaa.in_ Go.Proofs.Ytkmmogdiekillaa.posj Go.Proofs.Ytkmmogdiekillaa.posm Go.Proofs.Ytkmmogdiekillaa.poss Go.Proofs.Ytkmmogdiekillaa.post Go.Proofs.Ytkmmogdiekillaa.ats

theorem most7 (a b : Int) (w : World) :
    Calls Try.prog 76 #[.int .i64 a, .int .i64 b] w fun e w' => e = .returned (.int .i64 (max a b)) ∧ w = w' := by
  by_cases h : b < a
  · have e1 : max a b = a := by omega
    rw [e1]
    go_enter Try.func76, Try.ntmps76
    go_wp2_with fail
    go_ret
    exact ⟨rfl, rfl⟩
  · have e1 : max a b = b := by omega
    have g : decide (b < a) = false := decide_eq_false h
    rw [e1]
    clear e1 h
    go_enter Try.func76, Try.ntmps76
    go_wp2_with fail
    go_ret
    exact ⟨rfl, rfl⟩
theorem nearest7 (r s p : Int) (hs : s = 99 ∨ s = 100) (hr : 0 ≤ r ∧ r < s) (hp : 0 ≤ p ∧ p ≤ 9899) (w : World) :
    Calls Try.prog 75 #[.int .i64 r, .int .i64 s, .int .i64 p] w fun e w' => e = .returned (.int .i64 (bestT r s p (cnt r s 9899))) ∧ w = w' := by
  have HC := Lib.hid (fun (k : Nat) => cnt_lt (hi := 9899) (k := k) hs hr)
  have HI := Lib.hid (fun (k : Nat) (h : k ≤ cnt r s 9899) => best_in hs hr p h)
  have HY := Lib.hid (fun (k : Nat) h => best_yes (r := r) (s := s) (p := p) (k := k) h)
  have HN := Lib.hid (fun (k : Nat) h => best_no (r := r) (s := s) (p := p) (k := k) h)
  have HA := Lib.hid (fun (x : Int) w h0 h1 => abs7 x w h0 h1)
  have s0 : 99 ≤ s := by omega
  have s1 : s ≤ 100 := by omega
  have r1 : r ≤ 99 := by omega
  obtain ⟨r0, -⟩ := hr
  obtain ⟨p0, p1⟩ := hp
  generalize cnt r s 9899 = K at *
  clear hs
  go_enter Try.func75, Try.ntmps75
  go_wp2_with fail
  go_loop [7, 8] (fun b i => ∃ k : Nat, k ≤ K ∧ b = .int .i64 (bestT r s p k) ∧ ∃ n : Int, n = r + k * s ∧ 0 ≤ n ∧ n ≤ 9999 ∧ i = .int .i64 n) (fun _ i => 10000 - (intOf i).toNat)
  case atStart => exact ⟨0, Nat.zero_le _, rfl, r, by simp, r0, by omega, rfl⟩
  case round =>
    obtain ⟨k, hk, rfl, n, hn, n0, n1, rfl⟩ := hrel
    have hkk := HC.out k
    rw [← hn] at hkk
    by_cases hlt : n ≤ 9899
    · obtain ⟨b0, b1, -⟩ := HI.out k hk
      have A1 := Lib.hid (fun w => HA.out (n - p) w (by omega) (by omega))
      have A2 := Lib.hid (fun w => HA.out (bestT r s p k - p) w (by omega) (by omega))
      have HS := Lib.hid (show n + s = r + ((k + 1 : Nat) : Int) * s by rw [hn, Int.natCast_add, Int.add_mul]; omega)
      have hkK : k < K := hkk.mp hlt
      by_cases ht : (n - p).natAbs < (bestT r s p k - p).natAbs
      · have HT := Lib.hid (HY.out k (by rw [← hn]; exact ht))
        rw [← hn] at HT
        have ht2 : ((n - p).natAbs : Int) < ((bestT r s p k - p).natAbs : Int) := by omega
        generalize bestT r s p k = b at *
        generalize ((n - p).natAbs : Int) = u at *
        generalize ((b - p).natAbs : Int) = v at *
        clear ht hn hkk
        go_wp2_with fail
        refine (A1.out _).mono ?_
        rintro e w1 ⟨rfl, rfl⟩
        go_wp2_with fail
        refine (A2.out _).mono ?_
        rintro e w1 ⟨rfl, rfl⟩
        go_wp2_with fail
        go_round
        case rel => exact ⟨k + 1, by omega, by rw [HT.out], n + s, HS.out, by omega, by omega, rfl⟩
        case measure => simp [intOf]; omega
      · have HT := Lib.hid (HN.out k (by rw [← hn]; exact ht))
        have ht2 : decide (((n - p).natAbs : Int) < ((bestT r s p k - p).natAbs : Int)) = false := decide_eq_false (by omega)
        generalize hb : bestT r s p k = b at *
        generalize ((n - p).natAbs : Int) = u at *
        generalize ((b - p).natAbs : Int) = v at *
        clear ht hn hkk hb
        go_wp2_with fail
        refine (A1.out _).mono ?_
        rintro e w1 ⟨rfl, rfl⟩
        go_wp2_with fail
        refine (A2.out _).mono ?_
        rintro e w1 ⟨rfl, rfl⟩
        go_wp2_with fail
        go_round
        case rel => exact ⟨k + 1, by omega, by rw [HT.out], n + s, HS.out, by omega, by omega, rfl⟩
        case measure => simp [intOf]; omega
    · obtain rfl : k = K := by
        have : ¬ k < K := fun h => hlt (hkk.mpr h)
        omega
      generalize hb : bestT r s p k = b at *
      have HBB := Lib.hid hb
      clear hn hkk hb
      go_wp2_with fail
      go_ret
      exact ⟨by rw [HBB.out]; rfl, rfl⟩

theorem within7 (r s p d : Int) (hs : s = 99 ∨ s = 100) (hr : 0 ≤ r ∧ r < s) (hp : 0 ≤ p ∧ p ≤ 9899) (hd : ld p r s ≤ d) (w : World) :
    Calls Try.prog 78 #[.int .i64 r, .int .i64 s, .int .i64 p, .int .i64 d] w fun e w' => e = .returned (.int .i64 (first (max (p - d) 0) r s)) ∧ w = w' := by
  have hw := within_in hs hr hp hd
  have HF := Lib.hid (fun (m : Int) (h0 : 0 ≤ m) (he : m % s = r) (h : m < first (max (p - d) 0) r s) => within_first (n := p) (d := d) hs hr h0 he h)
  have HG := Lib.hid (fun (m : Int) (h0 : 0 ≤ m) (he : m % s = r) (h : m < first (max (p - d) 0) r s) => show m + s ≤ first (max (p - d) 0) r s by
    have h2 := hw.2.2.2.2
    generalize first (max (p - d) 0) r s = F at *
    rcases hs with rfl | rfl <;> omega)
  have HM := Lib.hid (fun (m : Int) (he : m % s = r) => show (m + s) % s = r by rw [Int.add_emod_right]; exact he)
  have HA := Lib.hid (fun (x : Int) w h0 h1 => abs7 x w h0 h1)
  have h00 : r % s = r := by rcases hs with rfl | rfl <;> omega
  have hf : r ≤ first (max (p - d) 0) r s := by
    have := hw.2.2.2.2
    have := hw.1
    generalize first (max (p - d) 0) r s = F at *
    rcases hs with rfl | rfl <;> omega
  have s0 : 99 ≤ s := by omega
  have s1 : s ≤ 100 := by omega
  obtain ⟨f0, f1, f2, f3, f4⟩ := hw
  generalize first (max (p - d) 0) r s = F at *
  obtain ⟨r0, -⟩ := hr
  obtain ⟨p0, p1⟩ := hp
  have HR := Lib.hid h00
  clear hs hd h00 f4
  go_enter Try.func78, Try.ntmps78
  go_wp2_with fail
  go_loop [9] (fun i => ∃ n : Int, 0 ≤ n ∧ n ≤ F ∧ n % s = r ∧ i = .int .i64 n) (fun i => 10000 - (intOf i).toNat)
  case atStart => exact ⟨r, r0, hf, HR.out, rfl⟩
  case round =>
    obtain ⟨n, n0, n1, hm, rfl⟩ := hrel
    have n2 : n ≤ 9899 := by omega
    have A1 := Lib.hid (fun w => HA.out (n - p) w (by omega) (by omega))
    by_cases hlt : n < F
    · have hx := HF.out n n0 hm hlt
      have hd2 : decide (((n - p).natAbs : Int) ≤ d) = false := decide_eq_false (by omega)
      have hy := HG.out n n0 hm hlt
      have HZ := Lib.hid (HM.out n hm)
      generalize ((n - p).natAbs : Int) = u at *
      clear hm hx
      go_wp2_with fail
      refine (A1.out _).mono ?_
      rintro e w1 ⟨rfl, rfl⟩
      go_wp2_with fail
      go_round
      case rel => exact ⟨n + s, by omega, hy, HZ.out, rfl⟩
      case measure => simp [intOf]; omega
    · obtain rfl : n = F := by omega
      have hd2 : ((n - p).natAbs : Int) ≤ d := by omega
      generalize ((n - p).natAbs : Int) = u at *
      clear hm
      go_wp2_with fail
      refine (A1.out _).mono ?_
      rintro e w1 ⟨rfl, rfl⟩
      go_wp2_with fail
      go_ret
      exact ⟨rfl, rfl⟩

set_option maxRecDepth 100000 in
set_option maxHeartbeats 2000000 in
theorem decodePair (o1 : Bool) (a1 b1 : Int) (o2 : Bool) (a2 b2 : Int) (w : World) :
    Calls Try.prog 27 #[.agg #[.bool o1, .int .i64 a1, .int .i64 b1], .agg #[.bool o2, .int .i64 a2, .int .i64 b2]] w
      fun e w' => e = .returned (.tuple #[.agg #[.int .i64 (dpV o1 a1 b1 o2 a2 b2 a1 a2), .int .i64 (dpV o1 a1 b1 o2 a2 b2 b1 b2)], .bool (dpB o1 a1 b1 o2 a2 b2)]) ∧ Below w.heap.size w w' := by
  have hv := fun W => report7 o1 a1 b1 W
  have hv2 := fun W => report7 o2 a2 b2 W
  have A0 := Lib.hid (((newS 29 #[.bool o1, .int .i64 a1, .int .i64 b1] w).alloc (.cells #[.bool o2, .int .i64 a2, .int .i64 b2] 29)).alloc (.cells #[.int .i64 0, .int .i64 0] 25))
  have B0 := Lib.hid (((newS 29 #[.bool o1, .int .i64 a1, .int .i64 b1] w).next 29 #[.bool o2, .int .i64 a2, .int .i64 b2]).alloc (.cells #[.int .i64 0, .int .i64 0] 25))
  have C0 := Lib.hid (((newS 29 #[.bool o1, .int .i64 a1, .int .i64 b1] w).alloc (.cells #[.bool o2, .int .i64 a2, .int .i64 b2] 29)).next 25 #[.int .i64 0, .int .i64 0])
  rw [World.size_alloc] at B0
  rw [World.size_alloc, World.size_alloc] at C0
  have HB := Lib.hid (show dpB o1 a1 b1 o2 a2 b2 = ((rB o1 a1 b1 && rB o2 a2 b2) && !o1 && o2) from rfl)
  have HN := Lib.hid (fun h => dp_no (o1 := o1) (a1 := a1) (b1 := b1) (o2 := o2) (a2 := a2) (b2 := b2) h)
  have HY := Lib.hid (fun h => dp_yes (o1 := o1) (a1 := a1) (b1 := b1) (o2 := o2) (a2 := a2) (b2 := b2) h)
  cases hq : rB o1 a1 b1
  · have HR := Lib.hid (HN.out (by rw [HB.out, hq]; rfl))
    rw [hq] at hv
    have HV := Lib.hid hv
    clear hv hv2 hq HN HY HB
    go_enter Try.func27, Try.ntmps27
    go_wp2_with fail
    generalize ((w.alloc (.cells #[.bool o1, .int .i64 a1, .int .i64 b1] 29)).alloc (.cells #[.bool o2, .int .i64 a2, .int .i64 b2] 29)).alloc (.cells #[.int .i64 0, .int .i64 0] 25) = W at *
    refine (HV.out W).mono ?_
    rintro e w1 ⟨rfl, hb1⟩
    have A1 := Lib.hid (A0.out.old hb1)
    have B1 := Lib.hid (B0.out.old hb1)
    have C1 := Lib.hid (C0.out.old hb1)
    have a_0 : w1.cell? ⟨w.heap.size, 0, none⟩ = some (.bool o1) := A1.out.cell 0
    have a_1 : w1.cell? ⟨w.heap.size, 1, none⟩ = some (.int .i64 a1) := A1.out.cell 1
    have a_2 : w1.cell? ⟨w.heap.size, 2, none⟩ = some (.int .i64 b1) := A1.out.cell 2
    have b_0 : w1.cell? ⟨w.heap.size + 1, 0, none⟩ = some (.bool o2) := B1.out.cell 0
    have b_1 : w1.cell? ⟨w.heap.size + 1, 1, none⟩ = some (.int .i64 a2) := B1.out.cell 1
    have b_2 : w1.cell? ⟨w.heap.size + 1, 2, none⟩ = some (.int .i64 b2) := B1.out.cell 2
    have c_0 : w1.cell? ⟨w.heap.size + 1 + 1, 0, none⟩ = some (.int .i64 0) := C1.out.cell 0
    have c_1 : w1.cell? ⟨w.heap.size + 1 + 1, 1, none⟩ = some (.int .i64 0) := C1.out.cell 1
    have f_0 : w1.frozen? ⟨w.heap.size + 1 + 1, 0, none⟩ = false := C1.out.frozen 0
    have f_1 : w1.frozen? ⟨w.heap.size + 1 + 1, 1, none⟩ = false := C1.out.frozen 1
    clear hb1 A0 B0 C0
    have HE := Lib.hid ((C1.out.set 0 (.int .i64 0)).set 1 (.int .i64 0))
    go_wp2_with fail
    have hl := HE.out.load Try.underlying25 rfl (by kernel_rfl)
    refine bodyPost_ret (v := .tuple #[.agg #[.int .i64 0, .int .i64 0], .bool false]) ?_ rfl ⟨by rw [HR.out], HE.out.1⟩
    rw [results_cell_tmp rfl]
    simp [asAddr, Result.andThen, hl]
  · have HQ := Lib.hid hq
    rw [hq] at hv
    have HV := Lib.hid hv
    clear hv hq
    cases hq : rB o2 a2 b2
    · have HR := Lib.hid (HN.out (by rw [HB.out, hq]; simp))
      rw [hq] at hv2
      have HV2 := Lib.hid hv2
      clear hv2 hq HN HY HB HQ
      go_enter Try.func27, Try.ntmps27
      go_wp2_with fail
      generalize ((w.alloc (.cells #[.bool o1, .int .i64 a1, .int .i64 b1] 29)).alloc (.cells #[.bool o2, .int .i64 a2, .int .i64 b2] 29)).alloc (.cells #[.int .i64 0, .int .i64 0] 25) = W at *
      refine (HV.out W).mono ?_
      rintro e w1 ⟨rfl, hb1⟩
      have A1 := Lib.hid (A0.out.old hb1)
      have B1 := Lib.hid (B0.out.old hb1)
      have C1 := Lib.hid (C0.out.old hb1)
      have a_0 : w1.cell? ⟨w.heap.size, 0, none⟩ = some (.bool o1) := A1.out.cell 0
      have a_1 : w1.cell? ⟨w.heap.size, 1, none⟩ = some (.int .i64 a1) := A1.out.cell 1
      have a_2 : w1.cell? ⟨w.heap.size, 2, none⟩ = some (.int .i64 b1) := A1.out.cell 2
      have b_0 : w1.cell? ⟨w.heap.size + 1, 0, none⟩ = some (.bool o2) := B1.out.cell 0
      have b_1 : w1.cell? ⟨w.heap.size + 1, 1, none⟩ = some (.int .i64 a2) := B1.out.cell 1
      have b_2 : w1.cell? ⟨w.heap.size + 1, 2, none⟩ = some (.int .i64 b2) := B1.out.cell 2
      have c_0 : w1.cell? ⟨w.heap.size + 1 + 1, 0, none⟩ = some (.int .i64 0) := C1.out.cell 0
      have c_1 : w1.cell? ⟨w.heap.size + 1 + 1, 1, none⟩ = some (.int .i64 0) := C1.out.cell 1
      have f_0 : w1.frozen? ⟨w.heap.size + 1 + 1, 0, none⟩ = false := C1.out.frozen 0
      have f_1 : w1.frozen? ⟨w.heap.size + 1 + 1, 1, none⟩ = false := C1.out.frozen 1
      clear hb1 A0 B0 C0
      go_wp2_with fail
      refine (HV2.out w1).mono ?_
      rintro e w2 ⟨rfl, hb2⟩
      have A2 := Lib.hid (A1.out.old hb2)
      have B2 := Lib.hid (B1.out.old hb2)
      have C2 := Lib.hid (C1.out.old hb2)
      clear a_0 a_1 a_2 b_0 b_1 b_2 c_0 c_1 f_0 f_1
      have a_0 : w2.cell? ⟨w.heap.size, 0, none⟩ = some (.bool o1) := A2.out.cell 0
      have a_1 : w2.cell? ⟨w.heap.size, 1, none⟩ = some (.int .i64 a1) := A2.out.cell 1
      have a_2 : w2.cell? ⟨w.heap.size, 2, none⟩ = some (.int .i64 b1) := A2.out.cell 2
      have b_0 : w2.cell? ⟨w.heap.size + 1, 0, none⟩ = some (.bool o2) := B2.out.cell 0
      have b_1 : w2.cell? ⟨w.heap.size + 1, 1, none⟩ = some (.int .i64 a2) := B2.out.cell 1
      have b_2 : w2.cell? ⟨w.heap.size + 1, 2, none⟩ = some (.int .i64 b2) := B2.out.cell 2
      have c_0 : w2.cell? ⟨w.heap.size + 1 + 1, 0, none⟩ = some (.int .i64 0) := C2.out.cell 0
      have c_1 : w2.cell? ⟨w.heap.size + 1 + 1, 1, none⟩ = some (.int .i64 0) := C2.out.cell 1
      have f_0 : w2.frozen? ⟨w.heap.size + 1 + 1, 0, none⟩ = false := C2.out.frozen 0
      have f_1 : w2.frozen? ⟨w.heap.size + 1 + 1, 1, none⟩ = false := C2.out.frozen 1
      clear hb2 A1 B1 C1
      have HE := Lib.hid ((C2.out.set 0 (.int .i64 0)).set 1 (.int .i64 0))
      go_wp2_with fail
      have hl := HE.out.load Try.underlying25 rfl (by kernel_rfl)
      refine bodyPost_ret (v := .tuple #[.agg #[.int .i64 0, .int .i64 0], .bool false]) ?_ rfl ⟨by rw [HR.out], HE.out.1⟩
      rw [results_cell_tmp rfl]
      simp [asAddr, Result.andThen, hl]
    · have HQ2 := Lib.hid hq
      rw [hq] at hv2
      have HV2 := Lib.hid hv2
      clear hv2 hq
      cases o1
      · cases o2
        · have HR := Lib.hid (HN.out (by rw [HB.out, HQ.out, HQ2.out]; simp))
          go_enter Try.func27, Try.ntmps27
          go_wp2_with fail
          generalize ((w.alloc (.cells #[.bool false, .int .i64 a1, .int .i64 b1] 29)).alloc (.cells #[.bool false, .int .i64 a2, .int .i64 b2] 29)).alloc (.cells #[.int .i64 0, .int .i64 0] 25) = W at *
          refine (HV.out W).mono ?_
          rintro e w1 ⟨rfl, hb1⟩
          have A1 := Lib.hid (A0.out.old hb1)
          have B1 := Lib.hid (B0.out.old hb1)
          have C1 := Lib.hid (C0.out.old hb1)
          have a_0 : w1.cell? ⟨w.heap.size, 0, none⟩ = some (.bool false) := A1.out.cell 0
          have a_1 : w1.cell? ⟨w.heap.size, 1, none⟩ = some (.int .i64 a1) := A1.out.cell 1
          have a_2 : w1.cell? ⟨w.heap.size, 2, none⟩ = some (.int .i64 b1) := A1.out.cell 2
          have b_0 : w1.cell? ⟨w.heap.size + 1, 0, none⟩ = some (.bool false) := B1.out.cell 0
          have b_1 : w1.cell? ⟨w.heap.size + 1, 1, none⟩ = some (.int .i64 a2) := B1.out.cell 1
          have b_2 : w1.cell? ⟨w.heap.size + 1, 2, none⟩ = some (.int .i64 b2) := B1.out.cell 2
          have c_0 : w1.cell? ⟨w.heap.size + 1 + 1, 0, none⟩ = some (.int .i64 0) := C1.out.cell 0
          have c_1 : w1.cell? ⟨w.heap.size + 1 + 1, 1, none⟩ = some (.int .i64 0) := C1.out.cell 1
          have f_0 : w1.frozen? ⟨w.heap.size + 1 + 1, 0, none⟩ = false := C1.out.frozen 0
          have f_1 : w1.frozen? ⟨w.heap.size + 1 + 1, 1, none⟩ = false := C1.out.frozen 1
          clear hb1 A0 B0 C0
          go_wp2_with fail
          refine (HV2.out w1).mono ?_
          rintro e w2 ⟨rfl, hb2⟩
          have A2 := Lib.hid (A1.out.old hb2)
          have B2 := Lib.hid (B1.out.old hb2)
          have C2 := Lib.hid (C1.out.old hb2)
          clear a_0 a_1 a_2 b_0 b_1 b_2 c_0 c_1 f_0 f_1
          have a_0 : w2.cell? ⟨w.heap.size, 0, none⟩ = some (.bool false) := A2.out.cell 0
          have a_1 : w2.cell? ⟨w.heap.size, 1, none⟩ = some (.int .i64 a1) := A2.out.cell 1
          have a_2 : w2.cell? ⟨w.heap.size, 2, none⟩ = some (.int .i64 b1) := A2.out.cell 2
          have b_0 : w2.cell? ⟨w.heap.size + 1, 0, none⟩ = some (.bool false) := B2.out.cell 0
          have b_1 : w2.cell? ⟨w.heap.size + 1, 1, none⟩ = some (.int .i64 a2) := B2.out.cell 1
          have b_2 : w2.cell? ⟨w.heap.size + 1, 2, none⟩ = some (.int .i64 b2) := B2.out.cell 2
          have c_0 : w2.cell? ⟨w.heap.size + 1 + 1, 0, none⟩ = some (.int .i64 0) := C2.out.cell 0
          have c_1 : w2.cell? ⟨w.heap.size + 1 + 1, 1, none⟩ = some (.int .i64 0) := C2.out.cell 1
          have f_0 : w2.frozen? ⟨w.heap.size + 1 + 1, 0, none⟩ = false := C2.out.frozen 0
          have f_1 : w2.frozen? ⟨w.heap.size + 1 + 1, 1, none⟩ = false := C2.out.frozen 1
          clear hb2 A1 B1 C1
          have HE := Lib.hid ((C2.out.set 0 (.int .i64 0)).set 1 (.int .i64 0))
          go_wp2_with fail
          have hl := HE.out.load Try.underlying25 rfl (by kernel_rfl)
          refine bodyPost_ret (v := .tuple #[.agg #[.int .i64 0, .int .i64 0], .bool false]) ?_ rfl ⟨by rw [HR.out], HE.out.1⟩
          rw [results_cell_tmp rfl]
          simp [asAddr, Result.andThen, hl]
        · have HR := Lib.hid (HY.out (by rw [HB.out, HQ.out, HQ2.out]; rfl))
          obtain ⟨⟨a1l, a1h⟩, b1l, b1h⟩ := rB_yes HQ.out
          obtain ⟨⟨a2l, a2h⟩, b2l, b2h⟩ := rB_yes HQ2.out
          have F1 := Lib.hid (fun w => flip (both7 a1 a2 ⟨a1l, a1h⟩ ⟨a2l, a2h⟩ w))
          have F2 := Lib.hid (fun w => flip (both7 b1 b2 ⟨b1l, b1h⟩ ⟨b2l, b2h⟩ w))
          clear a1l a1h b1l b1h a2l a2h b2l b2h HQ HQ2 HB HN HY
          generalize both a1 a2 = X at *
          generalize both b1 b2 = Y at *
          go_enter Try.func27, Try.ntmps27
          go_wp2_with fail
          generalize ((w.alloc (.cells #[.bool false, .int .i64 a1, .int .i64 b1] 29)).alloc (.cells #[.bool true, .int .i64 a2, .int .i64 b2] 29)).alloc (.cells #[.int .i64 0, .int .i64 0] 25) = W at *
          refine (HV.out W).mono ?_
          rintro e w1 ⟨rfl, hb1⟩
          have A1 := Lib.hid (A0.out.old hb1)
          have B1 := Lib.hid (B0.out.old hb1)
          have C1 := Lib.hid (C0.out.old hb1)
          have a_0 : w1.cell? ⟨w.heap.size, 0, none⟩ = some (.bool false) := A1.out.cell 0
          have a_1 : w1.cell? ⟨w.heap.size, 1, none⟩ = some (.int .i64 a1) := A1.out.cell 1
          have a_2 : w1.cell? ⟨w.heap.size, 2, none⟩ = some (.int .i64 b1) := A1.out.cell 2
          have b_0 : w1.cell? ⟨w.heap.size + 1, 0, none⟩ = some (.bool true) := B1.out.cell 0
          have b_1 : w1.cell? ⟨w.heap.size + 1, 1, none⟩ = some (.int .i64 a2) := B1.out.cell 1
          have b_2 : w1.cell? ⟨w.heap.size + 1, 2, none⟩ = some (.int .i64 b2) := B1.out.cell 2
          have c_0 : w1.cell? ⟨w.heap.size + 1 + 1, 0, none⟩ = some (.int .i64 0) := C1.out.cell 0
          have c_1 : w1.cell? ⟨w.heap.size + 1 + 1, 1, none⟩ = some (.int .i64 0) := C1.out.cell 1
          have f_0 : w1.frozen? ⟨w.heap.size + 1 + 1, 0, none⟩ = false := C1.out.frozen 0
          have f_1 : w1.frozen? ⟨w.heap.size + 1 + 1, 1, none⟩ = false := C1.out.frozen 1
          clear hb1 A0 B0 C0
          go_wp2_with fail
          refine (HV2.out w1).mono ?_
          rintro e w2 ⟨rfl, hb2⟩
          have A2 := Lib.hid (A1.out.old hb2)
          have B2 := Lib.hid (B1.out.old hb2)
          have C2 := Lib.hid (C1.out.old hb2)
          clear a_0 a_1 a_2 b_0 b_1 b_2 c_0 c_1 f_0 f_1
          have a_0 : w2.cell? ⟨w.heap.size, 0, none⟩ = some (.bool false) := A2.out.cell 0
          have a_1 : w2.cell? ⟨w.heap.size, 1, none⟩ = some (.int .i64 a1) := A2.out.cell 1
          have a_2 : w2.cell? ⟨w.heap.size, 2, none⟩ = some (.int .i64 b1) := A2.out.cell 2
          have b_0 : w2.cell? ⟨w.heap.size + 1, 0, none⟩ = some (.bool true) := B2.out.cell 0
          have b_1 : w2.cell? ⟨w.heap.size + 1, 1, none⟩ = some (.int .i64 a2) := B2.out.cell 1
          have b_2 : w2.cell? ⟨w.heap.size + 1, 2, none⟩ = some (.int .i64 b2) := B2.out.cell 2
          have c_0 : w2.cell? ⟨w.heap.size + 1 + 1, 0, none⟩ = some (.int .i64 0) := C2.out.cell 0
          have c_1 : w2.cell? ⟨w.heap.size + 1 + 1, 1, none⟩ = some (.int .i64 0) := C2.out.cell 1
          have f_0 : w2.frozen? ⟨w.heap.size + 1 + 1, 0, none⟩ = false := C2.out.frozen 0
          have f_1 : w2.frozen? ⟨w.heap.size + 1 + 1, 1, none⟩ = false := C2.out.frozen 1
          clear hb2 A1 B1 C1
          have HE := Lib.hid (((C2.out.set 0 (.int .i64 X)).set 1 (.int .i64 Y)).drew)
          have A3 := ((A2.out.drew.other (b' := w.heap.size + 1 + 1) (by omega) (by omega) 0 (.int .i64 X)).other (b' := w.heap.size + 1 + 1) (by omega) (by omega) 1 (.int .i64 Y))
          have B3 := ((B2.out.drew.other (b' := w.heap.size + 1 + 1) (by omega) (by omega) 0 (.int .i64 X)).other (b' := w.heap.size + 1 + 1) (by omega) (by omega) 1 (.int .i64 Y))
          have K2 := Lib.hid (And.intro (A3.cell 1) (And.intro (A3.cell 2) (And.intro (B3.cell 1) (B3.cell 2))))
          clear A2 B2 C2 A3 B3
          go_upto_region 3 with fail
          go_region_held3 (fun w' => w'.cell? ⟨w.heap.size, 1, none⟩ = some (.int .i64 a1) ∧ w'.cell? ⟨w.heap.size, 2, none⟩ = some (.int .i64 b1) ∧ w'.cell? ⟨w.heap.size + 1, 1, none⟩ = some (.int .i64 a2) ∧ w'.cell? ⟨w.heap.size + 1, 2, none⟩ = some (.int .i64 b2)) (first
            | exact ⟨a_1, a_2, b_1, b_2⟩
            | exact K2.out
            | go_keep) (first
            | (go_at_call 71; (with_reducible refine (F1.out _).mono ?_); rintro e w' ⟨rfl, rfl⟩)
            | (go_at_call 71; (with_reducible refine (F2.out _).mono ?_); rintro e w' ⟨rfl, rfl⟩))
          all_goals
            go_wp2_with fail
            have hl := HE.out.load Try.underlying25 rfl (by kernel_rfl)
            refine bodyPost_ret (v := .tuple #[.agg #[.int .i64 X, .int .i64 Y], .bool true]) ?_ rfl ⟨by rw [HR.out], HE.out.1⟩
            rw [results_cell_tmp rfl]
            simp [asAddr, Result.andThen, hl]
      · have HR := Lib.hid (HN.out (by rw [HB.out, HQ.out, HQ2.out]; simp))
        go_enter Try.func27, Try.ntmps27
        go_wp2_with fail
        generalize ((w.alloc (.cells #[.bool true, .int .i64 a1, .int .i64 b1] 29)).alloc (.cells #[.bool o2, .int .i64 a2, .int .i64 b2] 29)).alloc (.cells #[.int .i64 0, .int .i64 0] 25) = W at *
        refine (HV.out W).mono ?_
        rintro e w1 ⟨rfl, hb1⟩
        have A1 := Lib.hid (A0.out.old hb1)
        have B1 := Lib.hid (B0.out.old hb1)
        have C1 := Lib.hid (C0.out.old hb1)
        have a_0 : w1.cell? ⟨w.heap.size, 0, none⟩ = some (.bool true) := A1.out.cell 0
        have a_1 : w1.cell? ⟨w.heap.size, 1, none⟩ = some (.int .i64 a1) := A1.out.cell 1
        have a_2 : w1.cell? ⟨w.heap.size, 2, none⟩ = some (.int .i64 b1) := A1.out.cell 2
        have b_0 : w1.cell? ⟨w.heap.size + 1, 0, none⟩ = some (.bool o2) := B1.out.cell 0
        have b_1 : w1.cell? ⟨w.heap.size + 1, 1, none⟩ = some (.int .i64 a2) := B1.out.cell 1
        have b_2 : w1.cell? ⟨w.heap.size + 1, 2, none⟩ = some (.int .i64 b2) := B1.out.cell 2
        have c_0 : w1.cell? ⟨w.heap.size + 1 + 1, 0, none⟩ = some (.int .i64 0) := C1.out.cell 0
        have c_1 : w1.cell? ⟨w.heap.size + 1 + 1, 1, none⟩ = some (.int .i64 0) := C1.out.cell 1
        have f_0 : w1.frozen? ⟨w.heap.size + 1 + 1, 0, none⟩ = false := C1.out.frozen 0
        have f_1 : w1.frozen? ⟨w.heap.size + 1 + 1, 1, none⟩ = false := C1.out.frozen 1
        clear hb1 A0 B0 C0
        go_wp2_with fail
        refine (HV2.out w1).mono ?_
        rintro e w2 ⟨rfl, hb2⟩
        have A2 := Lib.hid (A1.out.old hb2)
        have B2 := Lib.hid (B1.out.old hb2)
        have C2 := Lib.hid (C1.out.old hb2)
        clear a_0 a_1 a_2 b_0 b_1 b_2 c_0 c_1 f_0 f_1
        have a_0 : w2.cell? ⟨w.heap.size, 0, none⟩ = some (.bool true) := A2.out.cell 0
        have a_1 : w2.cell? ⟨w.heap.size, 1, none⟩ = some (.int .i64 a1) := A2.out.cell 1
        have a_2 : w2.cell? ⟨w.heap.size, 2, none⟩ = some (.int .i64 b1) := A2.out.cell 2
        have b_0 : w2.cell? ⟨w.heap.size + 1, 0, none⟩ = some (.bool o2) := B2.out.cell 0
        have b_1 : w2.cell? ⟨w.heap.size + 1, 1, none⟩ = some (.int .i64 a2) := B2.out.cell 1
        have b_2 : w2.cell? ⟨w.heap.size + 1, 2, none⟩ = some (.int .i64 b2) := B2.out.cell 2
        have c_0 : w2.cell? ⟨w.heap.size + 1 + 1, 0, none⟩ = some (.int .i64 0) := C2.out.cell 0
        have c_1 : w2.cell? ⟨w.heap.size + 1 + 1, 1, none⟩ = some (.int .i64 0) := C2.out.cell 1
        have f_0 : w2.frozen? ⟨w.heap.size + 1 + 1, 0, none⟩ = false := C2.out.frozen 0
        have f_1 : w2.frozen? ⟨w.heap.size + 1 + 1, 1, none⟩ = false := C2.out.frozen 1
        clear hb2 A1 B1 C1
        have HE := Lib.hid ((C2.out.set 0 (.int .i64 0)).set 1 (.int .i64 0))
        go_wp2_with fail
        have hl := HE.out.load Try.underlying25 rfl (by kernel_rfl)
        refine bodyPost_ret (v := .tuple #[.agg #[.int .i64 0, .int .i64 0], .bool false]) ?_ rfl ⟨by rw [HR.out], HE.out.1⟩
        rw [results_cell_tmp rfl]
        simp [asAddr, Result.andThen, hl]
end Go.Proofs.Ytkmmogdiekillaa.posu
