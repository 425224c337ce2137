/- spec's AddVelocities, WholeSpeed; the code of a velocity: l8Signed, EncodeVelocity, DecodeVelocity. -/
import Derived.Test.YtchhjjiidfacbaaVelS
import Derived.Test.YtchhjjiidfacbaaVelB
import Derived.Test.YtchhjjiidfacbaaGood
import Derived.Deep.RegionHeld3
import Derived.Deep.CutRange
namespace Go.Proofs.Ytchhjjiidfacbaa.velt
open Go.RowKit Go.Proofs.Ytchhjjiidfacbaa.vel Go.Proofs.Ytchhjjiidfacbaa.in_ Go.Proofs.Ytchhjjiidfacbaa.ats Go.Proofs.Ytchhjjiidfacbaa.veli Go.Proofs.Ytchhjjiidfacbaa.velj Go.Proofs.Ytchhjjiidfacbaa.velk Go.Proofs.Ytchhjjiidfacbaa.vell Go.Proofs.Ytchhjjiidfacbaa.vels Go.Proofs.Ytchhjjiidfacbaa.velb Go.Proofs.Ytchhjjiidfacbaa.bin Go.Proofs.Ytchhjjiidfacbaa.good_

set_option maxRecDepth 100000 in
set_option maxHeartbeats 8000000 in
theorem addVelocities (a b c d : Int) (w : World) :
    Calls Try.prog 36 #[.agg #[.int .i64 a, .int .i64 b], .agg #[.int .i64 c, .int .i64 d]] w
      fun e w' => e = .returned (.tuple #[.agg #[.int .i64 (adX a b c d), .int .i64 (adY a b c d)], .bool (adB a b c d)]) ∧ Below w.heap.size w w' := by
  have hB := ad_is a b c d
  have HN := Lib.hid (fun h => ad_no (a := a) (b := b) (c := c) (d := d) h)
  have HY := Lib.hid (fun h => ad_yes (a := a) (b := b) (c := c) (d := d) h)
  have HS := Lib.hid (fun h => ad_sum (a := a) (b := b) (c := c) (d := d) h)
  generalize hs : wrap64 (a + c) = s at *
  generalize ht : wrap64 (b + d) = t at *
  have G1 := Lib.hid (fun w => good8 a b w)
  have G2 := Lib.hid (fun w => good8 c d w)
  have G3 := Lib.hid (fun w => good8 s t w)
  have A0 := Lib.hid ((((newS 44 #[.int .i64 a, .int .i64 b] w).alloc (.cells #[.int .i64 c, .int .i64 d] 44)).alloc (.cells #[.int .i64 0, .int .i64 0] 44)).alloc (.cells #[.int .i64 s, .int .i64 t] 44))
  have C0 := Lib.hid ((((newS 44 #[.int .i64 a, .int .i64 b] w).next 44 #[.int .i64 c, .int .i64 d]).alloc (.cells #[.int .i64 0, .int .i64 0] 44)).alloc (.cells #[.int .i64 s, .int .i64 t] 44))
  rw [World.size_alloc] at C0
  have Z0 := Lib.hid ((((newS 44 #[.int .i64 a, .int .i64 b] w).alloc (.cells #[.int .i64 c, .int .i64 d] 44)).next 44 #[.int .i64 0, .int .i64 0]).alloc (.cells #[.int .i64 s, .int .i64 t] 44))
  rw [World.size_alloc, World.size_alloc] at Z0
  have S0 := Lib.hid ((((newS 44 #[.int .i64 a, .int .i64 b] w).alloc (.cells #[.int .i64 c, .int .i64 d] 44)).alloc (.cells #[.int .i64 0, .int .i64 0] 44)).next 44 #[.int .i64 s, .int .i64 t])
  rw [World.size_alloc, World.size_alloc, World.size_alloc] at S0
  have HX := Lib.hid hB
  clear hB
  generalize vB a b = p1 at *
  generalize vB c d = p2 at *
  generalize vB s t = p3 at *
  cases p1
  · have HR := Lib.hid (HN.out HX.out)
    clear HN HY HS HX
    go_enter Try.func36, Try.ntmps36
    go_wp2_with fail
    generalize (((w.alloc (.cells #[.int .i64 a, .int .i64 b] 44)).alloc (.cells #[.int .i64 c, .int .i64 d] 44)).alloc (.cells #[.int .i64 0, .int .i64 0] 44)).alloc (.cells #[.int .i64 s, .int .i64 t] 44) = W at *
    refine (G1.out _).mono ?_
    rintro e w1 ⟨rfl, hb1⟩
    have A1 := Lib.hid (A0.out.old hb1)
    have C1 := Lib.hid (C0.out.old hb1)
    have Z1 := Lib.hid (Z0.out.old hb1)
    have S1 := Lib.hid (S0.out.old hb1)
    clear hb1 A0 C0 Z0 S0
    have a_0 : w1.cell? ⟨w.heap.size, 0, none⟩ = some (.int .i64 a) := A1.out.cell 0
    have a_1 : w1.cell? ⟨w.heap.size, 1, none⟩ = some (.int .i64 b) := A1.out.cell 1
    have c_0 : w1.cell? ⟨w.heap.size + 1, 0, none⟩ = some (.int .i64 c) := C1.out.cell 0
    have c_1 : w1.cell? ⟨w.heap.size + 1, 1, none⟩ = some (.int .i64 d) := C1.out.cell 1
    have z_0 : w1.cell? ⟨w.heap.size + 1 + 1, 0, none⟩ = some (.int .i64 0) := Z1.out.cell 0
    have z_1 : w1.cell? ⟨w.heap.size + 1 + 1, 1, none⟩ = some (.int .i64 0) := Z1.out.cell 1
    have s_0 : w1.cell? ⟨w.heap.size + 1 + 1 + 1, 0, none⟩ = some (.int .i64 s) := S1.out.cell 0
    have s_1 : w1.cell? ⟨w.heap.size + 1 + 1 + 1, 1, none⟩ = some (.int .i64 t) := S1.out.cell 1
    have f_0 : w1.frozen? ⟨w.heap.size + 1 + 1, 0, none⟩ = false := Z1.out.frozen 0
    have f_1 : w1.frozen? ⟨w.heap.size + 1 + 1, 1, none⟩ = false := Z1.out.frozen 1
    have HE := Lib.hid ((Z1.out.set 0 (.int .i64 0)).set 1 (.int .i64 0))
    go_wp2_with fail
    have hl := HE.out.load Try.underlying44 rfl (by kernel_rfl)
    refine bodyPost_ret (v := .tuple #[.agg #[.int .i64 0, .int .i64 0], .bool false]) ?_ rfl ⟨by rw [HR.out], HE.out.1⟩
    rw [results_cell_tmp rfl]
    simp [asAddr, Result.andThen, hl]
  · cases p2
    · have HR := Lib.hid (HN.out HX.out)
      clear HN HY HS HX
      go_enter Try.func36, Try.ntmps36
      go_wp2_with fail
      generalize (((w.alloc (.cells #[.int .i64 a, .int .i64 b] 44)).alloc (.cells #[.int .i64 c, .int .i64 d] 44)).alloc (.cells #[.int .i64 0, .int .i64 0] 44)).alloc (.cells #[.int .i64 s, .int .i64 t] 44) = W at *
      refine (G1.out _).mono ?_
      rintro e w1 ⟨rfl, hb1⟩
      have A1 := Lib.hid (A0.out.old hb1)
      have C1 := Lib.hid (C0.out.old hb1)
      have Z1 := Lib.hid (Z0.out.old hb1)
      have S1 := Lib.hid (S0.out.old hb1)
      clear hb1 A0 C0 Z0 S0
      have a_0 : w1.cell? ⟨w.heap.size, 0, none⟩ = some (.int .i64 a) := A1.out.cell 0
      have a_1 : w1.cell? ⟨w.heap.size, 1, none⟩ = some (.int .i64 b) := A1.out.cell 1
      have c_0 : w1.cell? ⟨w.heap.size + 1, 0, none⟩ = some (.int .i64 c) := C1.out.cell 0
      have c_1 : w1.cell? ⟨w.heap.size + 1, 1, none⟩ = some (.int .i64 d) := C1.out.cell 1
      have z_0 : w1.cell? ⟨w.heap.size + 1 + 1, 0, none⟩ = some (.int .i64 0) := Z1.out.cell 0
      have z_1 : w1.cell? ⟨w.heap.size + 1 + 1, 1, none⟩ = some (.int .i64 0) := Z1.out.cell 1
      have s_0 : w1.cell? ⟨w.heap.size + 1 + 1 + 1, 0, none⟩ = some (.int .i64 s) := S1.out.cell 0
      have s_1 : w1.cell? ⟨w.heap.size + 1 + 1 + 1, 1, none⟩ = some (.int .i64 t) := S1.out.cell 1
      go_wp2_with fail
      clear a_0 a_1 c_0 c_1 z_0 z_1 s_0 s_1
      refine (G2.out _).mono ?_
      rintro e w2 ⟨rfl, hb2⟩
      have A2 := Lib.hid (A1.out.old hb2)
      have C2 := Lib.hid (C1.out.old hb2)
      have Z2 := Lib.hid (Z1.out.old hb2)
      have S2 := Lib.hid (S1.out.old hb2)
      clear hb2 A1 C1 Z1 S1
      have a_0 : w2.cell? ⟨w.heap.size, 0, none⟩ = some (.int .i64 a) := A2.out.cell 0
      have a_1 : w2.cell? ⟨w.heap.size, 1, none⟩ = some (.int .i64 b) := A2.out.cell 1
      have c_0 : w2.cell? ⟨w.heap.size + 1, 0, none⟩ = some (.int .i64 c) := C2.out.cell 0
      have c_1 : w2.cell? ⟨w.heap.size + 1, 1, none⟩ = some (.int .i64 d) := C2.out.cell 1
      have z_0 : w2.cell? ⟨w.heap.size + 1 + 1, 0, none⟩ = some (.int .i64 0) := Z2.out.cell 0
      have z_1 : w2.cell? ⟨w.heap.size + 1 + 1, 1, none⟩ = some (.int .i64 0) := Z2.out.cell 1
      have s_0 : w2.cell? ⟨w.heap.size + 1 + 1 + 1, 0, none⟩ = some (.int .i64 s) := S2.out.cell 0
      have s_1 : w2.cell? ⟨w.heap.size + 1 + 1 + 1, 1, none⟩ = some (.int .i64 t) := S2.out.cell 1
      have f_0 : w2.frozen? ⟨w.heap.size + 1 + 1, 0, none⟩ = false := Z2.out.frozen 0
      have f_1 : w2.frozen? ⟨w.heap.size + 1 + 1, 1, none⟩ = false := Z2.out.frozen 1
      have HE := Lib.hid ((Z2.out.set 0 (.int .i64 0)).set 1 (.int .i64 0))
      go_wp2_with fail
      have hl := HE.out.load Try.underlying44 rfl (by kernel_rfl)
      refine bodyPost_ret (v := .tuple #[.agg #[.int .i64 0, .int .i64 0], .bool false]) ?_ rfl ⟨by rw [HR.out], HE.out.1⟩
      rw [results_cell_tmp rfl]
      simp [asAddr, Result.andThen, hl]
    · cases p3
      · have HR := Lib.hid (HN.out HX.out)
        clear HN HY HS HX
        go_enter Try.func36, Try.ntmps36
        go_wp2_with fail
        generalize (((w.alloc (.cells #[.int .i64 a, .int .i64 b] 44)).alloc (.cells #[.int .i64 c, .int .i64 d] 44)).alloc (.cells #[.int .i64 0, .int .i64 0] 44)).alloc (.cells #[.int .i64 s, .int .i64 t] 44) = W at *
        refine (G1.out _).mono ?_
        rintro e w1 ⟨rfl, hb1⟩
        have A1 := Lib.hid (A0.out.old hb1)
        have C1 := Lib.hid (C0.out.old hb1)
        have Z1 := Lib.hid (Z0.out.old hb1)
        have S1 := Lib.hid (S0.out.old hb1)
        clear hb1 A0 C0 Z0 S0
        have a_0 : w1.cell? ⟨w.heap.size, 0, none⟩ = some (.int .i64 a) := A1.out.cell 0
        have a_1 : w1.cell? ⟨w.heap.size, 1, none⟩ = some (.int .i64 b) := A1.out.cell 1
        have c_0 : w1.cell? ⟨w.heap.size + 1, 0, none⟩ = some (.int .i64 c) := C1.out.cell 0
        have c_1 : w1.cell? ⟨w.heap.size + 1, 1, none⟩ = some (.int .i64 d) := C1.out.cell 1
        have z_0 : w1.cell? ⟨w.heap.size + 1 + 1, 0, none⟩ = some (.int .i64 0) := Z1.out.cell 0
        have z_1 : w1.cell? ⟨w.heap.size + 1 + 1, 1, none⟩ = some (.int .i64 0) := Z1.out.cell 1
        have s_0 : w1.cell? ⟨w.heap.size + 1 + 1 + 1, 0, none⟩ = some (.int .i64 s) := S1.out.cell 0
        have s_1 : w1.cell? ⟨w.heap.size + 1 + 1 + 1, 1, none⟩ = some (.int .i64 t) := S1.out.cell 1
        go_wp2_with fail
        clear a_0 a_1 c_0 c_1 z_0 z_1 s_0 s_1
        refine (G2.out _).mono ?_
        rintro e w2 ⟨rfl, hb2⟩
        have A2 := Lib.hid (A1.out.old hb2)
        have C2 := Lib.hid (C1.out.old hb2)
        have Z2 := Lib.hid (Z1.out.old hb2)
        have S2 := Lib.hid (S1.out.old hb2)
        clear hb2 A1 C1 Z1 S1
        have a_0 : w2.cell? ⟨w.heap.size, 0, none⟩ = some (.int .i64 a) := A2.out.cell 0
        have a_1 : w2.cell? ⟨w.heap.size, 1, none⟩ = some (.int .i64 b) := A2.out.cell 1
        have c_0 : w2.cell? ⟨w.heap.size + 1, 0, none⟩ = some (.int .i64 c) := C2.out.cell 0
        have c_1 : w2.cell? ⟨w.heap.size + 1, 1, none⟩ = some (.int .i64 d) := C2.out.cell 1
        have z_0 : w2.cell? ⟨w.heap.size + 1 + 1, 0, none⟩ = some (.int .i64 0) := Z2.out.cell 0
        have z_1 : w2.cell? ⟨w.heap.size + 1 + 1, 1, none⟩ = some (.int .i64 0) := Z2.out.cell 1
        have s_0 : w2.cell? ⟨w.heap.size + 1 + 1 + 1, 0, none⟩ = some (.int .i64 s) := S2.out.cell 0
        have s_1 : w2.cell? ⟨w.heap.size + 1 + 1 + 1, 1, none⟩ = some (.int .i64 t) := S2.out.cell 1
        go_wp2_with fail
        clear a_0 a_1 c_0 c_1 z_0 z_1 s_0 s_1
        refine (G3.out _).mono ?_
        rintro e w3 ⟨rfl, hb3⟩
        have A3 := Lib.hid (A2.out.old hb3)
        have C3 := Lib.hid (C2.out.old hb3)
        have Z3 := Lib.hid (Z2.out.old hb3)
        have S3 := Lib.hid (S2.out.old hb3)
        clear hb3 A2 C2 Z2 S2
        have a_0 : w3.cell? ⟨w.heap.size, 0, none⟩ = some (.int .i64 a) := A3.out.cell 0
        have a_1 : w3.cell? ⟨w.heap.size, 1, none⟩ = some (.int .i64 b) := A3.out.cell 1
        have c_0 : w3.cell? ⟨w.heap.size + 1, 0, none⟩ = some (.int .i64 c) := C3.out.cell 0
        have c_1 : w3.cell? ⟨w.heap.size + 1, 1, none⟩ = some (.int .i64 d) := C3.out.cell 1
        have z_0 : w3.cell? ⟨w.heap.size + 1 + 1, 0, none⟩ = some (.int .i64 0) := Z3.out.cell 0
        have z_1 : w3.cell? ⟨w.heap.size + 1 + 1, 1, none⟩ = some (.int .i64 0) := Z3.out.cell 1
        have s_0 : w3.cell? ⟨w.heap.size + 1 + 1 + 1, 0, none⟩ = some (.int .i64 s) := S3.out.cell 0
        have s_1 : w3.cell? ⟨w.heap.size + 1 + 1 + 1, 1, none⟩ = some (.int .i64 t) := S3.out.cell 1
        have f_0 : w3.frozen? ⟨w.heap.size + 1 + 1, 0, none⟩ = false := Z3.out.frozen 0
        have f_1 : w3.frozen? ⟨w.heap.size + 1 + 1, 1, none⟩ = false := Z3.out.frozen 1
        have HE := Lib.hid ((Z3.out.set 0 (.int .i64 0)).set 1 (.int .i64 0))
        go_wp2_with fail
        have hl := HE.out.load Try.underlying44 rfl (by kernel_rfl)
        refine bodyPost_ret (v := .tuple #[.agg #[.int .i64 0, .int .i64 0], .bool false]) ?_ rfl ⟨by rw [HR.out], HE.out.1⟩
        rw [results_cell_tmp rfl]
        simp [asAddr, Result.andThen, hl]
      · have hb := HX.out
        rw [Bool.and_true, Bool.and_true] at hb
        have hR := HY.out hb
        obtain ⟨e1, e2⟩ := HS.out hb
        rw [← e1, ← e2] at hR
        have HR := Lib.hid hR
        clear HN HY HS HX hb e1 e2 hR
        go_enter Try.func36, Try.ntmps36
        go_wp2_with fail
        generalize (((w.alloc (.cells #[.int .i64 a, .int .i64 b] 44)).alloc (.cells #[.int .i64 c, .int .i64 d] 44)).alloc (.cells #[.int .i64 0, .int .i64 0] 44)).alloc (.cells #[.int .i64 s, .int .i64 t] 44) = W at *
        refine (G1.out _).mono ?_
        rintro e w1 ⟨rfl, hb1⟩
        have A1 := Lib.hid (A0.out.old hb1)
        have C1 := Lib.hid (C0.out.old hb1)
        have Z1 := Lib.hid (Z0.out.old hb1)
        have S1 := Lib.hid (S0.out.old hb1)
        clear hb1 A0 C0 Z0 S0
        have a_0 : w1.cell? ⟨w.heap.size, 0, none⟩ = some (.int .i64 a) := A1.out.cell 0
        have a_1 : w1.cell? ⟨w.heap.size, 1, none⟩ = some (.int .i64 b) := A1.out.cell 1
        have c_0 : w1.cell? ⟨w.heap.size + 1, 0, none⟩ = some (.int .i64 c) := C1.out.cell 0
        have c_1 : w1.cell? ⟨w.heap.size + 1, 1, none⟩ = some (.int .i64 d) := C1.out.cell 1
        have z_0 : w1.cell? ⟨w.heap.size + 1 + 1, 0, none⟩ = some (.int .i64 0) := Z1.out.cell 0
        have z_1 : w1.cell? ⟨w.heap.size + 1 + 1, 1, none⟩ = some (.int .i64 0) := Z1.out.cell 1
        have s_0 : w1.cell? ⟨w.heap.size + 1 + 1 + 1, 0, none⟩ = some (.int .i64 s) := S1.out.cell 0
        have s_1 : w1.cell? ⟨w.heap.size + 1 + 1 + 1, 1, none⟩ = some (.int .i64 t) := S1.out.cell 1
        go_wp2_with fail
        clear a_0 a_1 c_0 c_1 z_0 z_1 s_0 s_1
        refine (G2.out _).mono ?_
        rintro e w2 ⟨rfl, hb2⟩
        have A2 := Lib.hid (A1.out.old hb2)
        have C2 := Lib.hid (C1.out.old hb2)
        have Z2 := Lib.hid (Z1.out.old hb2)
        have S2 := Lib.hid (S1.out.old hb2)
        clear hb2 A1 C1 Z1 S1
        have a_0 : w2.cell? ⟨w.heap.size, 0, none⟩ = some (.int .i64 a) := A2.out.cell 0
        have a_1 : w2.cell? ⟨w.heap.size, 1, none⟩ = some (.int .i64 b) := A2.out.cell 1
        have c_0 : w2.cell? ⟨w.heap.size + 1, 0, none⟩ = some (.int .i64 c) := C2.out.cell 0
        have c_1 : w2.cell? ⟨w.heap.size + 1, 1, none⟩ = some (.int .i64 d) := C2.out.cell 1
        have z_0 : w2.cell? ⟨w.heap.size + 1 + 1, 0, none⟩ = some (.int .i64 0) := Z2.out.cell 0
        have z_1 : w2.cell? ⟨w.heap.size + 1 + 1, 1, none⟩ = some (.int .i64 0) := Z2.out.cell 1
        have s_0 : w2.cell? ⟨w.heap.size + 1 + 1 + 1, 0, none⟩ = some (.int .i64 s) := S2.out.cell 0
        have s_1 : w2.cell? ⟨w.heap.size + 1 + 1 + 1, 1, none⟩ = some (.int .i64 t) := S2.out.cell 1
        go_wp2_with fail
        clear a_0 a_1 c_0 c_1 z_0 z_1 s_0 s_1
        refine (G3.out _).mono ?_
        rintro e w3 ⟨rfl, hb3⟩
        have A3 := Lib.hid (A2.out.old hb3)
        have C3 := Lib.hid (C2.out.old hb3)
        have Z3 := Lib.hid (Z2.out.old hb3)
        have S3 := Lib.hid (S2.out.old hb3)
        clear hb3 A2 C2 Z2 S2
        have a_0 : w3.cell? ⟨w.heap.size, 0, none⟩ = some (.int .i64 a) := A3.out.cell 0
        have a_1 : w3.cell? ⟨w.heap.size, 1, none⟩ = some (.int .i64 b) := A3.out.cell 1
        have c_0 : w3.cell? ⟨w.heap.size + 1, 0, none⟩ = some (.int .i64 c) := C3.out.cell 0
        have c_1 : w3.cell? ⟨w.heap.size + 1, 1, none⟩ = some (.int .i64 d) := C3.out.cell 1
        have z_0 : w3.cell? ⟨w.heap.size + 1 + 1, 0, none⟩ = some (.int .i64 0) := Z3.out.cell 0
        have z_1 : w3.cell? ⟨w.heap.size + 1 + 1, 1, none⟩ = some (.int .i64 0) := Z3.out.cell 1
        have s_0 : w3.cell? ⟨w.heap.size + 1 + 1 + 1, 0, none⟩ = some (.int .i64 s) := S3.out.cell 0
        have s_1 : w3.cell? ⟨w.heap.size + 1 + 1 + 1, 1, none⟩ = some (.int .i64 t) := S3.out.cell 1
        have f_0 : w3.frozen? ⟨w.heap.size + 1 + 1, 0, none⟩ = false := Z3.out.frozen 0
        have f_1 : w3.frozen? ⟨w.heap.size + 1 + 1, 1, none⟩ = false := Z3.out.frozen 1
        have HE := Lib.hid ((Z3.out.set 0 (.int .i64 s)).set 1 (.int .i64 t))
        go_wp2_with fail
        have hl := HE.out.load Try.underlying44 rfl (by kernel_rfl)
        refine bodyPost_ret (v := .tuple #[.agg #[.int .i64 s, .int .i64 t], .bool true]) ?_ rfl ⟨by rw [HR.out], HE.out.1⟩
        rw [results_cell_tmp rfl]
        simp [asAddr, Result.andThen, hl]


set_option maxRecDepth 100000 in
set_option maxHeartbeats 8000000 in
theorem wholeSpeed (x y : Int) (w : World) :
    Calls Try.prog 47 #[.agg #[.int .i64 x, .int .i64 y]] w
      fun e w' => e = .returned (.tuple #[.int .i64 (wsV x y), .bool (vB x y)]) ∧ Below w.heap.size w w' := by
  have hv := fun w => good8 x y w
  have B0 := Lib.hid (newS 44 #[.int .i64 x, .int .i64 y] w)
  cases hb : vB x y
  · have HN := Lib.hid (ws_no hb)
    rw [hb] at hv HN
    have HV := Lib.hid hv
    clear hv hb
    go_enter Try.func47, Try.ntmps47
    go_wp2_with fail
    generalize w.alloc (.cells #[.int .i64 x, .int .i64 y] 44) = W at *
    refine (HV.out _).mono ?_
    rintro e w1 ⟨rfl, hb1⟩
    have B1 := Lib.hid (B0.out.old hb1)
    clear hb1
    go_wp2_with fail
    go_ret2
    exact ⟨congrArg Ending.returned HN.out, B1.out.1⟩
  · have HN := Lib.hid (fun (r : Nat) h => ws_yes (r := r) hb h)
    have Q1 := Lib.hid (fun w => square8 x y hb w)
    have hs := sq_le hb
    rw [hb] at hv HN
    have HV := Lib.hid hv
    clear hv hb
    generalize sq x y = s at *
    obtain ⟨s0, s1⟩ := hs
    have HS := Lib.hid s1
    go_enter Try.func47, Try.ntmps47
    go_wp2_with fail
    generalize w.alloc (.cells #[.int .i64 x, .int .i64 y] 44) = W at *
    refine (HV.out _).mono ?_
    rintro e w1 ⟨rfl, hb1⟩
    have B1 := Lib.hid (B0.out.old hb1)
    clear hb1 B0
    go_wp2_with fail
    go_loopw [4] (fun i wr => ∃ n f : Nat, i = .int .i64 n ∧ n + f = 300 ∧ rtA s f n = rt s ∧ AtS 44 #[.int .i64 x, .int .i64 y] w wr w.heap.size) (fun i _ => 300 - (intOf i).toNat)
    case atStart => exact ⟨0, 300, rfl, rfl, rfl, B1.out⟩
    case round =>
      obtain ⟨n, f, rfl, hnf, hr, hat⟩ := hrel
      have c0 : wr.cell? ⟨w.heap.size, 0, none⟩ = some (.int .i64 x) := hat.cell 0
      have c1 : wr.cell? ⟨w.heap.size, 1, none⟩ = some (.int .i64 y) := hat.cell 1
      have R1 := Lib.hid hat
      clear hat B1
      have hn : n ≤ 300 := by omega
      obtain ⟨p0, p1⟩ := next_le hn
      by_cases h : ((n : Int) + 1) * ((n : Int) + 1) ≤ s
      · have hf : f ≠ 0 := fun e => rt_zero (n := n) HS.out (by omega) h
        obtain ⟨f, rfl⟩ : ∃ g, f = g + 1 := ⟨f - 1, by omega⟩
        have HR := Lib.hid (show rtA s f (n + 1) = rt s by rw [← rtA_step h]; exact hr)
        clear hr
        generalize hp : ((n : Int) + 1) * ((n : Int) + 1) = p at *
        go_wp2_with fail
        refine (Q1.out _).mono ?_
        rintro e w2 ⟨rfl, hb2⟩
        have R2 := Lib.hid (R1.out.old hb2)
        clear hb2 R1 c0 c1
        go_wp2_with fail
        go_roundw
        case rel => exact ⟨n + 1, f, by go_num, by omega, HR.out, R2.out⟩
        case measure => simp [intOf]; omega
      · have g : decide (((n : Int) + 1) * ((n : Int) + 1) ≤ s) = false := decide_eq_false h
        have hR : n = rt s := by
          cases f with
          | zero => exact hr
          | succ f => rw [← hr, rtA_end h]
        have HR := Lib.hid (HN.out n hR)
        clear hr hR h
        generalize hp : ((n : Int) + 1) * ((n : Int) + 1) = p at *
        go_wp2_with fail
        refine (Q1.out _).mono ?_
        rintro e w2 ⟨rfl, hb2⟩
        have R2 := Lib.hid (R1.out.old hb2)
        clear hb2 R1 c0 c1
        go_wp2_with fail
        go_ret2
        exact ⟨congrArg Ending.returned HR.out, R2.out.1⟩

theorem signed8 (x : Int) (hx : -200 ≤ x ∧ x ≤ 200) (w : World) :
    Calls Try.prog 82 #[.int .i64 x] w fun e w' => e = .returned (.string (sgT x)) ∧ w = w' := by
  obtain ⟨x0, x1⟩ := hx
  by_cases h : x < 0
  · obtain ⟨k, rfl⟩ : ∃ k : Nat, x = -(k : Int) := ⟨x.natAbs, by omega⟩
    have H1 := Lib.hid (fun w => ofN k 10 w (by omega) (by omega))
    have HT := Lib.hid (aid.ret_str (sg_neg (k := k) (by omega)))
    have hz : (⟨(enc 2 10 k).toArray⟩ : ByteArray).size = 10 := enc_length 2 10 k
    generalize (⟨(enc 2 10 k).toArray⟩ : ByteArray) = u at *
    have e1 : - -(k : Int) = (k : Int) := by omega
    have k1 : (0 : Int) < (k : Int) := by omega
    clear h
    go_enter Try.func82, Try.ntmps82
    go_wp2_with fail
    refine (H1.out _).mono ?_
    rintro e w' ⟨rfl, rfl⟩
    go_wp2_with fail
    go_ret
    exact ⟨HT.out, rfl⟩
  · obtain ⟨k, rfl⟩ := Int.eq_ofNat_of_zero_le (show 0 ≤ x by omega)
    have H1 := Lib.hid (fun w => ofN k 10 w (by omega) (by omega))
    have HT := Lib.hid (aid.ret_str (sg_pos k))
    have hz : (⟨(enc 2 10 k).toArray⟩ : ByteArray).size = 10 := enc_length 2 10 k
    generalize (⟨(enc 2 10 k).toArray⟩ : ByteArray) = u at *
    have g : decide ((k : Int) < 0) = false := decide_eq_false h
    clear h
    go_enter Try.func82, Try.ntmps82
    go_wp2_with fail
    refine (H1.out _).mono ?_
    rintro e w' ⟨rfl, rfl⟩
    go_wp2_with fail
    go_ret
    exact ⟨HT.out, rfl⟩

set_option maxRecDepth 100000 in
set_option maxHeartbeats 8000000 in
theorem encodeVelocity (x y : Int) (w : World) :
    Calls Try.prog 40 #[.agg #[.int .i64 x, .int .i64 y]] w
      fun e w' => e = .returned (.tuple #[.int .i64 (enV x y), .bool (vB x y)]) ∧ Below w.heap.size w w' := by
  have hv := fun w => good8 x y w
  have B0 := Lib.hid (newS 44 #[.int .i64 x, .int .i64 y] w)
  cases hb : vB x y
  · have HN := Lib.hid (en_no hb)
    rw [hb] at hv HN
    have HV := Lib.hid hv
    clear hv hb
    go_enter Try.func40, Try.ntmps40
    go_wp2_with fail
    generalize w.alloc (.cells #[.int .i64 x, .int .i64 y] 44) = W at *
    refine (HV.out _).mono ?_
    rintro e w1 ⟨rfl, hb1⟩
    have B1 := Lib.hid (B0.out.old hb1)
    clear hb1
    go_wp2_with fail
    go_ret2
    exact ⟨congrArg Ending.returned HN.out, B1.out.1⟩
  · have hN := en_yes hb
    obtain ⟨hx, hy⟩ := vB_yes hb
    obtain ⟨tz, tok, tn⟩ := en_text hx hy
    rw [← tn] at hN
    have HN := Lib.hid hN
    have H1 := Lib.hid (fun w d => aid.quiet_left (signed8 x hx (World.drewN w d)))
    have H2 := Lib.hid (fun w d => aid.quiet_left (signed8 y hy (World.drewN w d)))
    have H3 := Lib.hid (fun w d => aid.quiet_left (number _ (World.drewN w d) (by rw [tz]; omega) tok))
    have z1 := sg_size x
    have z2 := sg_size y
    rw [hb] at hv HN
    have HV := Lib.hid hv
    clear hv hb hx hy hN tn tok tz
    generalize sgT x = A at *
    generalize sgT y = B at *
    have l1 : ¬ 9223372036854775807 < A.size + B.size := by omega
    have l2 : ¬ 9223372036854775807 < (A ++ B).size + 2 := by rw [ByteArray.size_append]; omega
    go_enter Try.func40, Try.ntmps40
    go_wp2_with fail
    generalize w.alloc (.cells #[.int .i64 x, .int .i64 y] 44) = W at *
    refine (HV.out _).mono ?_
    rintro e w1 ⟨rfl, hb1⟩
    have B1 := Lib.hid (B0.out.old hb1)
    have c0 : w1.cell? ⟨w.heap.size, 0, none⟩ = some (.int .i64 x) := B1.out.cell 0
    have c1 : w1.cell? ⟨w.heap.size, 1, none⟩ = some (.int .i64 y) := B1.out.cell 1
    clear hb1
    go_wp2_with fail
    go_quiet (first
      | (go_at_call 82; first | (with_reducible exact H1.out _ _) | (with_reducible exact H2.out _ _))
      | (go_at_call 81; with_reducible exact H3.out _ _))
    go_wp2_with fail
    go_ret2
    exact ⟨congrArg Ending.returned HN.out, aid.below_drewN B1.out.1 _⟩
end Go.Proofs.Ytchhjjiidfacbaa.velt
