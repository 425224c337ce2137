/- spec's PlacesWith. -/
import Derived.Test.YtkmmogdiekillaaPosR
import Derived.Test.YtkmmogdiekillaaPosS
namespace Go.Proofs.Ytkmmogdiekillaa.posz
open Go.RowKit Go.Proofs.Ytkmmogdiekillaa.pos Go.Proofs.Ytkmmogdiekillaa.in_ Go.Proofs.Ytkmmogdiekillaa.posj Go.Proofs.Ytkmmogdiekillaa.posm Go.Proofs.Ytkmmogdiekillaa.posq Go.Proofs.Ytkmmogdiekillaa.posr Go.Proofs.Ytkmmogdiekillaa.poss Go.Proofs.Ytkmmogdiekillaa.ats Go.Proofs.Ytkmmogdiekillaa.ints Go.Proofs.Ytkmmogdiekillaa.lst

set_option maxRecDepth 100000 in
set_option maxHeartbeats 8000000 in
theorem placesWith (o : Bool) (a b lx ly hx hy : Int) (w : World) :
    Calls Try.prog 39 #[.agg #[.bool o, .int .i64 a, .int .i64 b], .agg #[.int .i64 lx, .int .i64 ly], .agg #[.int .i64 hx, .int .i64 hy]] w
      fun e w' => ∃ v, e = .returned (.tuple #[v, .bool (pwB o a b lx ly hx hy)]) ∧ w'.ownsRow w.heap.size 25 2 v (pwN o a b lx ly hx hy) (cellsI (pwV o a b lx ly hx hy)) ∧ Below w.heap.size w w' := by
  have hv := fun w => report7 o a b w
  have hv2 := fun w => good7 lx ly w
  have hv3 := fun w => good7 hx hy w
  have A0 := Lib.hid ((((newS 29 #[.bool o, .int .i64 a, .int .i64 b] w).alloc (.cells #[.int .i64 lx, .int .i64 ly] 25)).alloc (.cells #[.int .i64 hx, .int .i64 hy] 25)).alloc (.cells #[] 25))
  have B0 := Lib.hid ((((newS 29 #[.bool o, .int .i64 a, .int .i64 b] w).next 25 #[.int .i64 lx, .int .i64 ly]).alloc (.cells #[.int .i64 hx, .int .i64 hy] 25)).alloc (.cells #[] 25))
  have C0 := Lib.hid ((((newS 29 #[.bool o, .int .i64 a, .int .i64 b] w).alloc (.cells #[.int .i64 lx, .int .i64 ly] 25)).next 25 #[.int .i64 hx, .int .i64 hy]).alloc (.cells #[] 25))
  rw [World.size_alloc] at B0
  rw [World.size_alloc, World.size_alloc] at C0
  have O0 := Lib.hid (own_emptyZ (((w.alloc (.cells #[.bool o, .int .i64 a, .int .i64 b] 29)).alloc (.cells #[.int .i64 lx, .int .i64 ly] 25)).alloc (.cells #[.int .i64 hx, .int .i64 hy] 25)) 25 2)
  rw [World.size_alloc, World.size_alloc, World.size_alloc] at O0
  have HBO := Lib.hid (show w.heap.size ≤ w.heap.size + 1 + 1 + 1 by omega)
  have HB := Lib.hid (show pwB o a b lx ly hx hy = ((rB o a b && pB lx ly && pB hx hy && decide (lx ≤ hx) && decide (ly ≤ hy)) && decide ((pwX o a lx hx).length * (pwX o b ly hy).length ≤ 400)) from rfl)
  cases hq : rB o a b
  · have HQ := Lib.hid hq
    rw [hq] at hv
    have HV := Lib.hid hv
    clear hv hq hv2 hv3
    have HF := Lib.hid (show pwB o a b lx ly hx hy = false by rw [HB.out, HQ.out]; rfl)
    have HR := Lib.hid (pw_no HF.out)
    go_enter Try.func39, Try.ntmps39
    go_wp2_with fail
    generalize (((w.alloc (.cells #[.bool o, .int .i64 a, .int .i64 b] 29)).alloc (.cells #[.int .i64 lx, .int .i64 ly] 25)).alloc (.cells #[.int .i64 hx, .int .i64 hy] 25)).alloc (.cells #[] 25) = W at *
    generalize hbo : w.heap.size + 1 + 1 + 1 = bo at *
    have HBO2 := Lib.hid hbo
    clear hbo
    refine (HV.out W).mono ?_
    rintro e w1 ⟨rfl, hb1⟩
    have A1 := Lib.hid (A0.out.old hb1)
    have B1 := Lib.hid (B0.out.old hb1)
    have C1 := Lib.hid (C0.out.old hb1)
    have O1 := Lib.hid (own_.own_below O0.out hb1)
    clear hb1 A0 B0 C0 O0
    have a_0 : w1.cell? ⟨w.heap.size, 0, none⟩ = some (.bool o) := A1.out.cell 0
    have a_1 : w1.cell? ⟨w.heap.size, 1, none⟩ = some (.int .i64 a) := A1.out.cell 1
    have a_2 : w1.cell? ⟨w.heap.size, 2, none⟩ = some (.int .i64 b) := A1.out.cell 2
    have b_0 : w1.cell? ⟨w.heap.size + 1, 0, none⟩ = some (.int .i64 lx) := B1.out.cell 0
    have b_1 : w1.cell? ⟨w.heap.size + 1, 1, none⟩ = some (.int .i64 ly) := B1.out.cell 1
    have c_0 : w1.cell? ⟨w.heap.size + 1 + 1, 0, none⟩ = some (.int .i64 hx) := C1.out.cell 0
    have c_1 : w1.cell? ⟨w.heap.size + 1 + 1, 1, none⟩ = some (.int .i64 hy) := C1.out.cell 1
    go_wp2_with fail
    go_ret2
    exact ⟨_, by rw [HF.out]; rfl, by rw [HR.out.1, HR.out.2]; exact own_.own_base O1.out HBO.out, A1.out.1⟩
  · have HQ := Lib.hid hq
    rw [hq] at hv
    have HV := Lib.hid hv
    clear hv hq
    cases hq : pB lx ly
    · have HQ2 := Lib.hid hq
      rw [hq] at hv2
      have HV2 := Lib.hid hv2
      clear hv2 hv3 hq
      have HF := Lib.hid (show pwB o a b lx ly hx hy = false by rw [HB.out, HQ2.out]; simp)
      have HR := Lib.hid (pw_no HF.out)
      go_enter Try.func39, Try.ntmps39
      go_wp2_with fail
      generalize (((w.alloc (.cells #[.bool o, .int .i64 a, .int .i64 b] 29)).alloc (.cells #[.int .i64 lx, .int .i64 ly] 25)).alloc (.cells #[.int .i64 hx, .int .i64 hy] 25)).alloc (.cells #[] 25) = W at *
      generalize hbo : w.heap.size + 1 + 1 + 1 = bo at *
      have HBO2 := Lib.hid hbo
      clear hbo
      refine (HV.out W).mono ?_
      rintro e w1 ⟨rfl, hb1⟩
      have A1 := Lib.hid (A0.out.old hb1)
      have B1 := Lib.hid (B0.out.old hb1)
      have C1 := Lib.hid (C0.out.old hb1)
      have O1 := Lib.hid (own_.own_below O0.out hb1)
      clear hb1 A0 B0 C0 O0
      have a_0 : w1.cell? ⟨w.heap.size, 0, none⟩ = some (.bool o) := A1.out.cell 0
      have a_1 : w1.cell? ⟨w.heap.size, 1, none⟩ = some (.int .i64 a) := A1.out.cell 1
      have a_2 : w1.cell? ⟨w.heap.size, 2, none⟩ = some (.int .i64 b) := A1.out.cell 2
      have b_0 : w1.cell? ⟨w.heap.size + 1, 0, none⟩ = some (.int .i64 lx) := B1.out.cell 0
      have b_1 : w1.cell? ⟨w.heap.size + 1, 1, none⟩ = some (.int .i64 ly) := B1.out.cell 1
      have c_0 : w1.cell? ⟨w.heap.size + 1 + 1, 0, none⟩ = some (.int .i64 hx) := C1.out.cell 0
      have c_1 : w1.cell? ⟨w.heap.size + 1 + 1, 1, none⟩ = some (.int .i64 hy) := C1.out.cell 1
      go_wp2_with fail
      refine (HV2.out w1).mono ?_
      rintro e w2 ⟨rfl, hb2⟩
      clear a_0 a_1 a_2 b_0 b_1 c_0 c_1
      have A2 := Lib.hid (A1.out.old hb2)
      have B2 := Lib.hid (B1.out.old hb2)
      have C2 := Lib.hid (C1.out.old hb2)
      have O2 := Lib.hid (own_.own_below O1.out hb2)
      clear hb2 A1 B1 C1 O1
      have a_0 : w2.cell? ⟨w.heap.size, 0, none⟩ = some (.bool o) := A2.out.cell 0
      have a_1 : w2.cell? ⟨w.heap.size, 1, none⟩ = some (.int .i64 a) := A2.out.cell 1
      have a_2 : w2.cell? ⟨w.heap.size, 2, none⟩ = some (.int .i64 b) := A2.out.cell 2
      have b_0 : w2.cell? ⟨w.heap.size + 1, 0, none⟩ = some (.int .i64 lx) := B2.out.cell 0
      have b_1 : w2.cell? ⟨w.heap.size + 1, 1, none⟩ = some (.int .i64 ly) := B2.out.cell 1
      have c_0 : w2.cell? ⟨w.heap.size + 1 + 1, 0, none⟩ = some (.int .i64 hx) := C2.out.cell 0
      have c_1 : w2.cell? ⟨w.heap.size + 1 + 1, 1, none⟩ = some (.int .i64 hy) := C2.out.cell 1
      go_wp2_with fail
      go_ret2
      exact ⟨_, by rw [HF.out]; rfl, by rw [HR.out.1, HR.out.2]; exact own_.own_base O2.out HBO.out, A2.out.1⟩
    · have HQ2 := Lib.hid hq
      rw [hq] at hv2
      have HV2 := Lib.hid hv2
      clear hv2 hq
      cases hq : pB hx hy
      · have HQ3 := Lib.hid hq
        rw [hq] at hv3
        have HV3 := Lib.hid hv3
        clear hv3 hq
        have HF := Lib.hid (show pwB o a b lx ly hx hy = false by rw [HB.out, HQ3.out]; simp)
        have HR := Lib.hid (pw_no HF.out)
        go_enter Try.func39, Try.ntmps39
        go_wp2_with fail
        generalize (((w.alloc (.cells #[.bool o, .int .i64 a, .int .i64 b] 29)).alloc (.cells #[.int .i64 lx, .int .i64 ly] 25)).alloc (.cells #[.int .i64 hx, .int .i64 hy] 25)).alloc (.cells #[] 25) = W at *
        generalize hbo : w.heap.size + 1 + 1 + 1 = bo at *
        have HBO2 := Lib.hid hbo
        clear hbo
        refine (HV.out W).mono ?_
        rintro e w1 ⟨rfl, hb1⟩
        have A1 := Lib.hid (A0.out.old hb1)
        have B1 := Lib.hid (B0.out.old hb1)
        have C1 := Lib.hid (C0.out.old hb1)
        have O1 := Lib.hid (own_.own_below O0.out hb1)
        clear hb1 A0 B0 C0 O0
        have a_0 : w1.cell? ⟨w.heap.size, 0, none⟩ = some (.bool o) := A1.out.cell 0
        have a_1 : w1.cell? ⟨w.heap.size, 1, none⟩ = some (.int .i64 a) := A1.out.cell 1
        have a_2 : w1.cell? ⟨w.heap.size, 2, none⟩ = some (.int .i64 b) := A1.out.cell 2
        have b_0 : w1.cell? ⟨w.heap.size + 1, 0, none⟩ = some (.int .i64 lx) := B1.out.cell 0
        have b_1 : w1.cell? ⟨w.heap.size + 1, 1, none⟩ = some (.int .i64 ly) := B1.out.cell 1
        have c_0 : w1.cell? ⟨w.heap.size + 1 + 1, 0, none⟩ = some (.int .i64 hx) := C1.out.cell 0
        have c_1 : w1.cell? ⟨w.heap.size + 1 + 1, 1, none⟩ = some (.int .i64 hy) := C1.out.cell 1
        go_wp2_with fail
        refine (HV2.out w1).mono ?_
        rintro e w2 ⟨rfl, hb2⟩
        clear a_0 a_1 a_2 b_0 b_1 c_0 c_1
        have A2 := Lib.hid (A1.out.old hb2)
        have B2 := Lib.hid (B1.out.old hb2)
        have C2 := Lib.hid (C1.out.old hb2)
        have O2 := Lib.hid (own_.own_below O1.out hb2)
        clear hb2 A1 B1 C1 O1
        have a_0 : w2.cell? ⟨w.heap.size, 0, none⟩ = some (.bool o) := A2.out.cell 0
        have a_1 : w2.cell? ⟨w.heap.size, 1, none⟩ = some (.int .i64 a) := A2.out.cell 1
        have a_2 : w2.cell? ⟨w.heap.size, 2, none⟩ = some (.int .i64 b) := A2.out.cell 2
        have b_0 : w2.cell? ⟨w.heap.size + 1, 0, none⟩ = some (.int .i64 lx) := B2.out.cell 0
        have b_1 : w2.cell? ⟨w.heap.size + 1, 1, none⟩ = some (.int .i64 ly) := B2.out.cell 1
        have c_0 : w2.cell? ⟨w.heap.size + 1 + 1, 0, none⟩ = some (.int .i64 hx) := C2.out.cell 0
        have c_1 : w2.cell? ⟨w.heap.size + 1 + 1, 1, none⟩ = some (.int .i64 hy) := C2.out.cell 1
        go_wp2_with fail
        refine (HV3.out w2).mono ?_
        rintro e w3 ⟨rfl, hb3⟩
        clear a_0 a_1 a_2 b_0 b_1 c_0 c_1
        have A3 := Lib.hid (A2.out.old hb3)
        have B3 := Lib.hid (B2.out.old hb3)
        have C3 := Lib.hid (C2.out.old hb3)
        have O3 := Lib.hid (own_.own_below O2.out hb3)
        clear hb3 A2 B2 C2 O2
        have a_0 : w3.cell? ⟨w.heap.size, 0, none⟩ = some (.bool o) := A3.out.cell 0
        have a_1 : w3.cell? ⟨w.heap.size, 1, none⟩ = some (.int .i64 a) := A3.out.cell 1
        have a_2 : w3.cell? ⟨w.heap.size, 2, none⟩ = some (.int .i64 b) := A3.out.cell 2
        have b_0 : w3.cell? ⟨w.heap.size + 1, 0, none⟩ = some (.int .i64 lx) := B3.out.cell 0
        have b_1 : w3.cell? ⟨w.heap.size + 1, 1, none⟩ = some (.int .i64 ly) := B3.out.cell 1
        have c_0 : w3.cell? ⟨w.heap.size + 1 + 1, 0, none⟩ = some (.int .i64 hx) := C3.out.cell 0
        have c_1 : w3.cell? ⟨w.heap.size + 1 + 1, 1, none⟩ = some (.int .i64 hy) := C3.out.cell 1
        go_wp2_with fail
        go_ret2
        exact ⟨_, by rw [HF.out]; rfl, by rw [HR.out.1, HR.out.2]; exact own_.own_base O3.out HBO.out, A3.out.1⟩
      · have HQ3 := Lib.hid hq
        rw [hq] at hv3
        have HV3 := Lib.hid hv3
        clear hv3 hq
        by_cases x1 : hx < lx
        · have hd : decide (lx ≤ hx) = false := decide_eq_false (by omega)
          have HF := Lib.hid (show pwB o a b lx ly hx hy = false by rw [HB.out, hd]; simp)
          have HR := Lib.hid (pw_no HF.out)
          go_enter Try.func39, Try.ntmps39
          go_wp2_with fail
          generalize (((w.alloc (.cells #[.bool o, .int .i64 a, .int .i64 b] 29)).alloc (.cells #[.int .i64 lx, .int .i64 ly] 25)).alloc (.cells #[.int .i64 hx, .int .i64 hy] 25)).alloc (.cells #[] 25) = W at *
          generalize hbo : w.heap.size + 1 + 1 + 1 = bo at *
          have HBO2 := Lib.hid hbo
          clear hbo
          refine (HV.out W).mono ?_
          rintro e w1 ⟨rfl, hb1⟩
          have A1 := Lib.hid (A0.out.old hb1)
          have B1 := Lib.hid (B0.out.old hb1)
          have C1 := Lib.hid (C0.out.old hb1)
          have O1 := Lib.hid (own_.own_below O0.out hb1)
          clear hb1 A0 B0 C0 O0
          have a_0 : w1.cell? ⟨w.heap.size, 0, none⟩ = some (.bool o) := A1.out.cell 0
          have a_1 : w1.cell? ⟨w.heap.size, 1, none⟩ = some (.int .i64 a) := A1.out.cell 1
          have a_2 : w1.cell? ⟨w.heap.size, 2, none⟩ = some (.int .i64 b) := A1.out.cell 2
          have b_0 : w1.cell? ⟨w.heap.size + 1, 0, none⟩ = some (.int .i64 lx) := B1.out.cell 0
          have b_1 : w1.cell? ⟨w.heap.size + 1, 1, none⟩ = some (.int .i64 ly) := B1.out.cell 1
          have c_0 : w1.cell? ⟨w.heap.size + 1 + 1, 0, none⟩ = some (.int .i64 hx) := C1.out.cell 0
          have c_1 : w1.cell? ⟨w.heap.size + 1 + 1, 1, none⟩ = some (.int .i64 hy) := C1.out.cell 1
          go_wp2_with fail
          refine (HV2.out w1).mono ?_
          rintro e w2 ⟨rfl, hb2⟩
          clear a_0 a_1 a_2 b_0 b_1 c_0 c_1
          have A2 := Lib.hid (A1.out.old hb2)
          have B2 := Lib.hid (B1.out.old hb2)
          have C2 := Lib.hid (C1.out.old hb2)
          have O2 := Lib.hid (own_.own_below O1.out hb2)
          clear hb2 A1 B1 C1 O1
          have a_0 : w2.cell? ⟨w.heap.size, 0, none⟩ = some (.bool o) := A2.out.cell 0
          have a_1 : w2.cell? ⟨w.heap.size, 1, none⟩ = some (.int .i64 a) := A2.out.cell 1
          have a_2 : w2.cell? ⟨w.heap.size, 2, none⟩ = some (.int .i64 b) := A2.out.cell 2
          have b_0 : w2.cell? ⟨w.heap.size + 1, 0, none⟩ = some (.int .i64 lx) := B2.out.cell 0
          have b_1 : w2.cell? ⟨w.heap.size + 1, 1, none⟩ = some (.int .i64 ly) := B2.out.cell 1
          have c_0 : w2.cell? ⟨w.heap.size + 1 + 1, 0, none⟩ = some (.int .i64 hx) := C2.out.cell 0
          have c_1 : w2.cell? ⟨w.heap.size + 1 + 1, 1, none⟩ = some (.int .i64 hy) := C2.out.cell 1
          go_wp2_with fail
          refine (HV3.out w2).mono ?_
          rintro e w3 ⟨rfl, hb3⟩
          clear a_0 a_1 a_2 b_0 b_1 c_0 c_1
          have A3 := Lib.hid (A2.out.old hb3)
          have B3 := Lib.hid (B2.out.old hb3)
          have C3 := Lib.hid (C2.out.old hb3)
          have O3 := Lib.hid (own_.own_below O2.out hb3)
          clear hb3 A2 B2 C2 O2
          have a_0 : w3.cell? ⟨w.heap.size, 0, none⟩ = some (.bool o) := A3.out.cell 0
          have a_1 : w3.cell? ⟨w.heap.size, 1, none⟩ = some (.int .i64 a) := A3.out.cell 1
          have a_2 : w3.cell? ⟨w.heap.size, 2, none⟩ = some (.int .i64 b) := A3.out.cell 2
          have b_0 : w3.cell? ⟨w.heap.size + 1, 0, none⟩ = some (.int .i64 lx) := B3.out.cell 0
          have b_1 : w3.cell? ⟨w.heap.size + 1, 1, none⟩ = some (.int .i64 ly) := B3.out.cell 1
          have c_0 : w3.cell? ⟨w.heap.size + 1 + 1, 0, none⟩ = some (.int .i64 hx) := C3.out.cell 0
          have c_1 : w3.cell? ⟨w.heap.size + 1 + 1, 1, none⟩ = some (.int .i64 hy) := C3.out.cell 1
          go_wp2_with fail
          go_ret2
          exact ⟨_, by rw [HF.out]; rfl, by rw [HR.out.1, HR.out.2]; exact own_.own_base O3.out HBO.out, A3.out.1⟩
        · have x2 : decide (hx < lx) = false := decide_eq_false x1
          by_cases y1 : hy < ly
          · have hd : decide (ly ≤ hy) = false := decide_eq_false (by omega)
            have HF := Lib.hid (show pwB o a b lx ly hx hy = false by rw [HB.out, hd]; simp)
            have HR := Lib.hid (pw_no HF.out)
            go_enter Try.func39, Try.ntmps39
            go_wp2_with fail
            generalize (((w.alloc (.cells #[.bool o, .int .i64 a, .int .i64 b] 29)).alloc (.cells #[.int .i64 lx, .int .i64 ly] 25)).alloc (.cells #[.int .i64 hx, .int .i64 hy] 25)).alloc (.cells #[] 25) = W at *
            generalize hbo : w.heap.size + 1 + 1 + 1 = bo at *
            have HBO2 := Lib.hid hbo
            clear hbo
            refine (HV.out W).mono ?_
            rintro e w1 ⟨rfl, hb1⟩
            have A1 := Lib.hid (A0.out.old hb1)
            have B1 := Lib.hid (B0.out.old hb1)
            have C1 := Lib.hid (C0.out.old hb1)
            have O1 := Lib.hid (own_.own_below O0.out hb1)
            clear hb1 A0 B0 C0 O0
            have a_0 : w1.cell? ⟨w.heap.size, 0, none⟩ = some (.bool o) := A1.out.cell 0
            have a_1 : w1.cell? ⟨w.heap.size, 1, none⟩ = some (.int .i64 a) := A1.out.cell 1
            have a_2 : w1.cell? ⟨w.heap.size, 2, none⟩ = some (.int .i64 b) := A1.out.cell 2
            have b_0 : w1.cell? ⟨w.heap.size + 1, 0, none⟩ = some (.int .i64 lx) := B1.out.cell 0
            have b_1 : w1.cell? ⟨w.heap.size + 1, 1, none⟩ = some (.int .i64 ly) := B1.out.cell 1
            have c_0 : w1.cell? ⟨w.heap.size + 1 + 1, 0, none⟩ = some (.int .i64 hx) := C1.out.cell 0
            have c_1 : w1.cell? ⟨w.heap.size + 1 + 1, 1, none⟩ = some (.int .i64 hy) := C1.out.cell 1
            go_wp2_with fail
            refine (HV2.out w1).mono ?_
            rintro e w2 ⟨rfl, hb2⟩
            clear a_0 a_1 a_2 b_0 b_1 c_0 c_1
            have A2 := Lib.hid (A1.out.old hb2)
            have B2 := Lib.hid (B1.out.old hb2)
            have C2 := Lib.hid (C1.out.old hb2)
            have O2 := Lib.hid (own_.own_below O1.out hb2)
            clear hb2 A1 B1 C1 O1
            have a_0 : w2.cell? ⟨w.heap.size, 0, none⟩ = some (.bool o) := A2.out.cell 0
            have a_1 : w2.cell? ⟨w.heap.size, 1, none⟩ = some (.int .i64 a) := A2.out.cell 1
            have a_2 : w2.cell? ⟨w.heap.size, 2, none⟩ = some (.int .i64 b) := A2.out.cell 2
            have b_0 : w2.cell? ⟨w.heap.size + 1, 0, none⟩ = some (.int .i64 lx) := B2.out.cell 0
            have b_1 : w2.cell? ⟨w.heap.size + 1, 1, none⟩ = some (.int .i64 ly) := B2.out.cell 1
            have c_0 : w2.cell? ⟨w.heap.size + 1 + 1, 0, none⟩ = some (.int .i64 hx) := C2.out.cell 0
            have c_1 : w2.cell? ⟨w.heap.size + 1 + 1, 1, none⟩ = some (.int .i64 hy) := C2.out.cell 1
            go_wp2_with fail
            refine (HV3.out w2).mono ?_
            rintro e w3 ⟨rfl, hb3⟩
            clear a_0 a_1 a_2 b_0 b_1 c_0 c_1
            have A3 := Lib.hid (A2.out.old hb3)
            have B3 := Lib.hid (B2.out.old hb3)
            have C3 := Lib.hid (C2.out.old hb3)
            have O3 := Lib.hid (own_.own_below O2.out hb3)
            clear hb3 A2 B2 C2 O2
            have a_0 : w3.cell? ⟨w.heap.size, 0, none⟩ = some (.bool o) := A3.out.cell 0
            have a_1 : w3.cell? ⟨w.heap.size, 1, none⟩ = some (.int .i64 a) := A3.out.cell 1
            have a_2 : w3.cell? ⟨w.heap.size, 2, none⟩ = some (.int .i64 b) := A3.out.cell 2
            have b_0 : w3.cell? ⟨w.heap.size + 1, 0, none⟩ = some (.int .i64 lx) := B3.out.cell 0
            have b_1 : w3.cell? ⟨w.heap.size + 1, 1, none⟩ = some (.int .i64 ly) := B3.out.cell 1
            have c_0 : w3.cell? ⟨w.heap.size + 1 + 1, 0, none⟩ = some (.int .i64 hx) := C3.out.cell 0
            have c_1 : w3.cell? ⟨w.heap.size + 1 + 1, 1, none⟩ = some (.int .i64 hy) := C3.out.cell 1
            go_wp2_with fail
            go_ret2
            exact ⟨_, by rw [HF.out]; rfl, by rw [HR.out.1, HR.out.2]; exact own_.own_base O3.out HBO.out, A3.out.1⟩
          · have y2 : decide (hy < ly) = false := decide_eq_false y1
            have x3 : decide (lx ≤ hx) = true := decide_eq_true (by omega)
            have y3 : decide (ly ≤ hy) = true := decide_eq_true (by omega)
            clear x1 y1
            obtain ⟨ga, gb⟩ := rB_yes HQ.out
            obtain ⟨gl, gm⟩ := pB_yes HQ2.out
            obtain ⟨gh, gk⟩ := pB_yes HQ3.out
            have hs := sz_or o
            have S7 := Lib.hid (fun w => size7 o w)
            have lnx : (pwX o a lx hx).length ≤ 100 := up_len a (sz o) lx hx hs ga gh.2
            have lny : (pwX o b ly hy).length ≤ 100 := up_len b (sz o) ly hy hs gb gk.2
            have HCX := Lib.hid (fun k : Nat => cnt_lt (hi := hx) (k := k) hs ga)
            have HCY := Lib.hid (fun k : Nat => cnt_lt (hi := hy) (k := k) hs gb)
            have hKX := cnt_le hs ga gh.2
            have hKY := cnt_le hs gb gk.2
            have HUY := Lib.hid (fun (k : Nat) (h : ly ≤ b + (k : Int) * sz o) => up_yes h)
            have HUN := Lib.hid (fun (k : Nat) (h : ¬ ly ≤ b + (k : Int) * sz o) => up_no h)
            have HXY := Lib.hid (fun (k : Nat) (h : lx ≤ a + (k : Int) * sz o) => up_yes h)
            have HXN := Lib.hid (fun (k : Nat) (h : ¬ lx ≤ a + (k : Int) * sz o) => up_no h)
            have HMX := Lib.hid (fun (k m : Nat) (h : k ≤ m) => up_mono a (sz o) lx h)
            have HMY := Lib.hid (fun (k m : Nat) (h : k ≤ m) => up_mono b (sz o) ly h)
            have HST := Lib.hid (show ∀ (c : Int) (k : Nat) (n : Int), n = c + k * sz o → n + sz o = c + ((k + 1 : Nat) : Int) * sz o from fun c k n hn => by rw [hn, Int.natCast_add, Int.add_mul]; omega)
            have HBT := Lib.hid (show (pwX o a lx hx).length * (pwX o b ly hy).length ≤ 400 → pwB o a b lx ly hx hy = true from fun h => by rw [HB.out, HQ.out, HQ2.out, HQ3.out, x3, y3, decide_eq_true h]; rfl)
            have HBF := Lib.hid (show ¬ (pwX o a lx hx).length * (pwX o b ly hy).length ≤ 400 → pwB o a b lx ly hx hy = false from fun h => by rw [HB.out, decide_eq_false h]; simp)
            have HPN := Lib.hid (fun h => pw_no (o := o) (a := a) (b := b) (lx := lx) (ly := ly) (hx := hx) (hy := hy) h)
            have HPY := Lib.hid (fun h => pw_yes (o := o) (a := a) (b := b) (lx := lx) (ly := ly) (hx := hx) (hy := hy) h)
            have HXE := Lib.hid (show up a (sz o) lx (cnt a (sz o) hx) = pwX o a lx hx from rfl)
            have HYE := Lib.hid (show up b (sz o) ly (cnt b (sz o) hy) = pwX o b ly hy from rfl)
            have s0 := (sz_pos o).1
            have s1 := (sz_pos o).2
            generalize pwX o a lx hx = X at *
            generalize pwX o b ly hy = Y at *
            generalize cnt a (sz o) hx = KX at *
            generalize cnt b (sz o) hy = KY at *
            generalize sz o = s at *
            obtain ⟨r0, r1⟩ := ga
            obtain ⟨q0, q1⟩ := gb
            obtain ⟨h0, h1⟩ := gh
            obtain ⟨k0, k1⟩ := gk
            clear hs gl gm HQ HQ2 HQ3 HB x3 y3
            obtain ⟨i0, hi0, hz0, hz1, hz2⟩ := info_parts infoP
            go_enter Try.func39, Try.ntmps39
            go_wp2_with fail
            generalize (((w.alloc (.cells #[.bool o, .int .i64 a, .int .i64 b] 29)).alloc (.cells #[.int .i64 lx, .int .i64 ly] 25)).alloc (.cells #[.int .i64 hx, .int .i64 hy] 25)).alloc (.cells #[] 25) = W at *
            generalize hbo : w.heap.size + 1 + 1 + 1 = bo at *
            have HBO2 := Lib.hid hbo
            clear hbo
            refine (HV.out W).mono ?_
            rintro e w1 ⟨rfl, hb1⟩
            have A1 := Lib.hid (A0.out.old hb1)
            have B1 := Lib.hid (B0.out.old hb1)
            have C1 := Lib.hid (C0.out.old hb1)
            have O1 := Lib.hid (own_.own_below O0.out hb1)
            clear hb1 A0 B0 C0 O0
            have a_0 : w1.cell? ⟨w.heap.size, 0, none⟩ = some (.bool o) := A1.out.cell 0
            have a_1 : w1.cell? ⟨w.heap.size, 1, none⟩ = some (.int .i64 a) := A1.out.cell 1
            have a_2 : w1.cell? ⟨w.heap.size, 2, none⟩ = some (.int .i64 b) := A1.out.cell 2
            have b_0 : w1.cell? ⟨w.heap.size + 1, 0, none⟩ = some (.int .i64 lx) := B1.out.cell 0
            have b_1 : w1.cell? ⟨w.heap.size + 1, 1, none⟩ = some (.int .i64 ly) := B1.out.cell 1
            have c_0 : w1.cell? ⟨w.heap.size + 1 + 1, 0, none⟩ = some (.int .i64 hx) := C1.out.cell 0
            have c_1 : w1.cell? ⟨w.heap.size + 1 + 1, 1, none⟩ = some (.int .i64 hy) := C1.out.cell 1
            go_wp2_with fail
            refine (HV2.out w1).mono ?_
            rintro e w2 ⟨rfl, hb2⟩
            clear a_0 a_1 a_2 b_0 b_1 c_0 c_1
            have A2 := Lib.hid (A1.out.old hb2)
            have B2 := Lib.hid (B1.out.old hb2)
            have C2 := Lib.hid (C1.out.old hb2)
            have O2 := Lib.hid (own_.own_below O1.out hb2)
            clear hb2 A1 B1 C1 O1
            have a_0 : w2.cell? ⟨w.heap.size, 0, none⟩ = some (.bool o) := A2.out.cell 0
            have a_1 : w2.cell? ⟨w.heap.size, 1, none⟩ = some (.int .i64 a) := A2.out.cell 1
            have a_2 : w2.cell? ⟨w.heap.size, 2, none⟩ = some (.int .i64 b) := A2.out.cell 2
            have b_0 : w2.cell? ⟨w.heap.size + 1, 0, none⟩ = some (.int .i64 lx) := B2.out.cell 0
            have b_1 : w2.cell? ⟨w.heap.size + 1, 1, none⟩ = some (.int .i64 ly) := B2.out.cell 1
            have c_0 : w2.cell? ⟨w.heap.size + 1 + 1, 0, none⟩ = some (.int .i64 hx) := C2.out.cell 0
            have c_1 : w2.cell? ⟨w.heap.size + 1 + 1, 1, none⟩ = some (.int .i64 hy) := C2.out.cell 1
            go_wp2_with fail
            refine (HV3.out w2).mono ?_
            rintro e w3 ⟨rfl, hb3⟩
            clear a_0 a_1 a_2 b_0 b_1 c_0 c_1
            have A3 := Lib.hid (A2.out.old hb3)
            have B3 := Lib.hid (B2.out.old hb3)
            have C3 := Lib.hid (C2.out.old hb3)
            have O3 := Lib.hid (own_.own_below O2.out hb3)
            clear hb3 A2 B2 C2 O2
            have a_0 : w3.cell? ⟨w.heap.size, 0, none⟩ = some (.bool o) := A3.out.cell 0
            have a_1 : w3.cell? ⟨w.heap.size, 1, none⟩ = some (.int .i64 a) := A3.out.cell 1
            have a_2 : w3.cell? ⟨w.heap.size, 2, none⟩ = some (.int .i64 b) := A3.out.cell 2
            have b_0 : w3.cell? ⟨w.heap.size + 1, 0, none⟩ = some (.int .i64 lx) := B3.out.cell 0
            have b_1 : w3.cell? ⟨w.heap.size + 1, 1, none⟩ = some (.int .i64 ly) := B3.out.cell 1
            have c_0 : w3.cell? ⟨w.heap.size + 1 + 1, 0, none⟩ = some (.int .i64 hx) := C3.out.cell 0
            have c_1 : w3.cell? ⟨w.heap.size + 1 + 1, 1, none⟩ = some (.int .i64 hy) := C3.out.cell 1
            go_wp2_with fail
            refine (S7.out _).mono ?_
            rintro e w4 ⟨rfl, rfl⟩
            have HCS := Lib.hid (show ∀ W, Below bo w3 W → W.cell? ⟨w.heap.size, 1, none⟩ = some (.int .i64 a) ∧ W.cell? ⟨w.heap.size + 1, 0, none⟩ = some (.int .i64 lx) ∧ W.cell? ⟨w.heap.size + 1, 1, none⟩ = some (.int .i64 ly) ∧ W.cell? ⟨w.heap.size + 1 + 1, 0, none⟩ = some (.int .i64 hx) ∧ W.cell? ⟨w.heap.size + 1 + 1, 1, none⟩ = some (.int .i64 hy) from fun W hb => by
              have hb0 := HBO2.out
              exact ⟨(hb.cell (p := ⟨w.heap.size, 1, none⟩) (by show w.heap.size < bo; omega)).trans a_1, (hb.cell (p := ⟨w.heap.size + 1, 0, none⟩) (by show w.heap.size + 1 < bo; omega)).trans b_0, (hb.cell (p := ⟨w.heap.size + 1, 1, none⟩) (by show w.heap.size + 1 < bo; omega)).trans b_1, (hb.cell (p := ⟨w.heap.size + 1 + 1, 0, none⟩) (by show w.heap.size + 1 + 1 < bo; omega)).trans c_0, (hb.cell (p := ⟨w.heap.size + 1 + 1, 1, none⟩) (by show w.heap.size + 1 + 1 < bo; omega)).trans c_1⟩)
            have HB3 := Lib.hid A3.out.1
            have hbs : bo ≤ w3.heap.size := Nat.le_of_lt (own_lt O3.out)
            have HBS := Lib.hid hbs
            clear hbs A3 B3 C3 HV HV2 HV3 S7
            go_wp2_with fail
            clear a_0 a_1 a_2 b_0 b_1 c_0 c_1
            go_loopw [8, 10] (fun v i wr => ∃ j : Nat, j ≤ KY ∧ ∃ y : Int, y = b + j * s ∧ 0 ≤ y ∧ y ≤ 9999 ∧ i = .int .i64 y ∧ X.length * (up b s ly j).length ≤ 400 ∧ wr.ownsRow bo 25 2 v (X.length * (up b s ly j).length) (cellsI (places X (up b s ly j))) ∧ Below bo w3 wr) (fun _ i _ => 10000 - (intOf i).toNat)
            case atStart => exact ⟨0, Nat.zero_le _, b, by simp, q0, by omega, rfl, Nat.zero_le _, O3.out, Below.refl _ _⟩
            case round =>
              clear O3
              obtain ⟨j, hj, y, hy0, y0, y1, rfl, hN, hown, hb⟩ := hrel
              obtain ⟨a_1, b_0, b_1, c_0, c_1⟩ := HCS.out wr hb
              have hcy := HCY.out j
              rw [← hy0] at hcy
              by_cases hlt : y ≤ hy
              · have hjK := hcy.mp hlt
                have HSj := Lib.hid (HST.out b j y hy0)
                have HUYj := Lib.hid (HUY.out j)
                have HUNj := Lib.hid (HUN.out j)
                have HMYj := Lib.hid (HMY.out (j + 1) KY hjK)
                rw [← hy0] at HUYj HUNj
                generalize up b s ly j = U at *
                have HO := Lib.hid hown
                have HBw := Lib.hid hb
                clear hown hb hcy hy0
                by_cases hyl : ly ≤ y
                · have HU := Lib.hid (HUYj.out hyl)
                  have hyl2 : decide (y < ly) = false := decide_eq_false (by omega)
                  have HPA := Lib.hid (places_add X U y)
                  have R0 := Lib.hid (row_nil y)
                  have HNE := Lib.hid (show X.length * (U ++ [y]).length = X.length * U.length + X.length by rw [List.length_append, List.length_singleton, Nat.mul_succ])
                  have HBIG := Lib.hid (show ∀ m, m ≤ X.length → 400 < X.length * U.length + m → ¬ X.length * Y.length ≤ 400 from fun m hm hg hle => by
                    have h1 := HMYj.out
                    rw [HU.out, HYE.out] at h1
                    have h2 := Nat.mul_le_mul_left X.length h1
                    rw [HNE.out] at h2
                    omega)
                  generalize X.length * U.length = N at *
                  generalize places X U = L at *
                  clear hyl
                  go_wp2_with fail
                  clear a_1 b_0 b_1 c_0 c_1
                  go_loopw [8, 11] (fun v i wr => ∃ k : Nat, k ≤ KX ∧ ∃ x : Int, x = a + k * s ∧ 0 ≤ x ∧ x ≤ 9999 ∧ i = .int .i64 x ∧ N + (up a s lx k).length ≤ 400 ∧ wr.ownsRow bo 25 2 v (N + (up a s lx k).length) (cellsI (L ++ row y (up a s lx k))) ∧ Below bo w3 wr) (fun _ i _ => 10000 - (intOf i).toNat)
                  case atStart => exact ⟨0, Nat.zero_le _, a, by simp, r0, by omega, rfl, hN, by show wr.ownsRow bo _ 2 _ (N + 0) (cellsI (L ++ row y [])); rw [R0.out, List.append_nil]; exact HO.out, HBw.out⟩
                  case round =>
                    clear HO HBw
                    obtain ⟨k, hk, x, hx0, x0, x1, rfl, hn, hown, hb⟩ := hrel
                    obtain ⟨a_1, b_0, b_1, c_0, c_1⟩ := HCS.out wr hb
                    have hcx := HCX.out k
                    rw [← hx0] at hcx
                    by_cases hlk : x ≤ hx
                    · have hkK := hcx.mp hlk
                      have HSk := Lib.hid (HST.out a k x hx0)
                      have HXYk := Lib.hid (HXY.out k)
                      have HXNk := Lib.hid (HXN.out k)
                      have HMk := Lib.hid (HMX.out (k + 1) KX hkK)
                      rw [← hx0] at HXYk HXNk
                      generalize up a s lx k = P at *
                      clear hcx hx0
                      by_cases hxl : lx ≤ x
                      · have HP := Lib.hid (HXYk.out hxl)
                        have hxl2 : decide (x < lx) = false := decide_eq_false (by omega)
                        have HRA := Lib.hid (row_add y x P)
                        obtain ⟨Ao, co, rfl⟩ := own_sliceZ hown
                        by_cases h400 : N + P.length = 400
                        · have hfull : (((N + P.length : Nat) : Int) == 400) = true := by rw [h400]; rfl
                          have HF := Lib.hid (HBF.out (HBIG.out (P.length + 1) (by
                            have := HMk.out
                            rw [HP.out, HXE.out] at this
                            simpa using this) (by omega)))
                          have HR := Lib.hid (HPN.out HF.out)
                          have HBW := Lib.hid hb
                          generalize N + P.length = M at *
                          clear hxl h400 hb hown
                          go_wp2_with fail
                          go_ret2
                          refine ⟨_, by rw [HF.out]; rfl, by rw [HR.out.1, HR.out.2]; exact own_.own_base (own_emptyZ wr 25 2) (Nat.le_trans HBO.out (Nat.le_trans HBS.out HBW.out.size)), ?_⟩
                          exact (HB3.out.trans (HBW.out.mono HBO.out)).alloc (Nat.le_trans HBO.out (Nat.le_trans HBS.out HBW.out.size)) _
                        · have hfull : (((N + P.length : Nat) : Int) == 400) = false := by simp; omega
                          have hsz := Nat.le_trans HBS.out hb.size
                          have HM := Lib.hid (show N + (P ++ [x]).length = N + P.length + 1 by rw [List.length_append, List.length_singleton]; omega)
                          have hM : N + P.length < 400 := by omega
                          generalize N + P.length = M at *
                          clear hxl h400
                          go_wp2_with (at_builtin; refine wpList_append_own _ rfl (.tmp 76) (.tmp 80) 35 rfl bo 25 i0 (.agg #[.int .i64 0, .int .i64 0]) 2 16 Try.underlying35 hi0 hz0 hz1 hz2 rfl (by decide) _ M (cellsI (L ++ row y P)) rfl (hown.alloc _) ⟨wr.heap.size, 0, none⟩ 1 1 [.int .i64 x, .int .i64 y] rfl rfl (cells_new _ _ #[.int .i64 x, .int .i64 y]) (two_cells x y) (by unfold maxLen; omega) (by omega) (by simp; omega) ?_; intro v' w5 hown' hgrow hnil)
                          have hb' := own_.below_append hb hown hsz hgrow
                          have HO2 := Lib.hid (own_growP hown')
                          clear hown' hgrow hnil hown hb a_1 b_0 b_1 c_0 c_1
                          go_roundw
                          case rel => exact ⟨k + 1, by omega, x + s, HSk.out, by omega, by omega, rfl, by rw [HP.out, HM.out]; omega, by rw [HP.out, HM.out, HRA.out, ← List.append_assoc]; exact HO2.out, hb'⟩
                          case measure => simp [intOf]; omega
                      · have HP := Lib.hid (HXNk.out (by omega))
                        have hxl2 : x < lx := by omega
                        go_wp2_with fail
                        go_roundw
                        case rel => exact ⟨k + 1, by omega, x + s, HSk.out, by omega, by omega, rfl, by rw [HP.out]; exact hn, by rw [HP.out]; exact hown, hb⟩
                        case measure => simp [intOf]; omega
                    · obtain rfl : k = KX := by
                        have : ¬ k < KX := fun h => hlk (hcx.mpr h)
                        omega
                      rw [HXE.out] at hown hn
                      clear hcx hx0
                      go_wp2_with fail
                      go_roundw
                      case rel => exact ⟨j + 1, by omega, y + s, HSj.out, by omega, by omega, rfl, by rw [HU.out, HNE.out]; exact hn, by rw [HU.out, HNE.out, HPA.out]; exact hown, hb⟩
                      case measure => simp [intOf]; omega
                · have HU := Lib.hid (HUNj.out (by omega))
                  have hyl2 : y < ly := by omega
                  generalize hL : places X U = L at *
                  have HLq := Lib.hid hL
                  clear hL
                  clear hyl
                  go_wp2_with fail
                  clear a_1 b_0 b_1 c_0 c_1
                  go_loopw [8, 11] (fun v i wr => ∃ k : Nat, k ≤ KX ∧ ∃ x : Int, x = a + k * s ∧ 0 ≤ x ∧ x ≤ 9999 ∧ i = .int .i64 x ∧ wr.ownsRow bo 25 2 v (X.length * U.length) (cellsI L) ∧ Below bo w3 wr) (fun _ i _ => 10000 - (intOf i).toNat)
                  case atStart => exact ⟨0, Nat.zero_le _, a, by simp, r0, by omega, rfl, HO.out, HBw.out⟩
                  case round =>
                    clear HO HBw
                    obtain ⟨k, hk, x, hx0, x0, x1, rfl, hown, hb⟩ := hrel
                    obtain ⟨a_1, b_0, b_1, c_0, c_1⟩ := HCS.out wr hb
                    have hcx := HCX.out k
                    rw [← hx0] at hcx
                    by_cases hlk : x ≤ hx
                    · have hkK := hcx.mp hlk
                      have HSk := Lib.hid (HST.out a k x hx0)
                      clear hcx hx0
                      by_cases hxl : x < lx
                      · go_wp2_with fail
                        go_roundw
                        case rel => exact ⟨k + 1, by omega, x + s, HSk.out, by omega, by omega, rfl, hown, hb⟩
                        case measure => simp [intOf]; omega
                      · have hxl2 : decide (x < lx) = false := decide_eq_false hxl
                        go_wp2_with fail
                        go_roundw
                        case rel => exact ⟨k + 1, by omega, x + s, HSk.out, by omega, by omega, rfl, hown, hb⟩
                        case measure => simp [intOf]; omega
                    · clear hcx hx0
                      go_wp2_with fail
                      go_roundw
                      case rel => exact ⟨j + 1, by omega, y + s, HSj.out, by omega, by omega, rfl, by rw [HU.out]; exact hN, by rw [HU.out, HLq.out]; exact hown, hb⟩
                      case measure => simp [intOf]; omega
              · obtain rfl : j = KY := by
                  have : ¬ j < KY := fun h => hlt (hcy.mpr h)
                  omega
                rw [HYE.out] at hown hN
                have HF := Lib.hid (HBT.out hN)
                have HR := Lib.hid (HPY.out HF.out)
                clear hcy hy0
                go_wp2_with fail
                go_ret2
                exact ⟨_, by rw [HF.out]; rfl, by rw [HR.out.1, HR.out.2]; exact own_.own_base hown HBO.out, HB3.out.trans (hb.mono HBO.out)⟩
end Go.Proofs.Ytkmmogdiekillaa.posz
