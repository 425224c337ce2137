/- impl's PlacesWith. -/
import Derived.Test.YtkmmogdiekillaaPosQ
namespace Go.Proofs.Ytkmmogdiekillaa.posr
open Go.RowKit Go.Proofs.Ytkmmogdiekillaa.pos Go.Proofs.Ytkmmogdiekillaa.in_ Go.Proofs.Ytkmmogdiekillaa.posi Go.Proofs.Ytkmmogdiekillaa.posj Go.Proofs.Ytkmmogdiekillaa.posm Go.Proofs.Ytkmmogdiekillaa.posp Go.Proofs.Ytkmmogdiekillaa.posq Go.Proofs.Ytkmmogdiekillaa.ats Go.Proofs.Ytkmmogdiekillaa.ints Go.Proofs.Ytkmmogdiekillaa.lst

theorem pw_no {o : Bool} {a b lx ly hx hy : Int} (h : pwB o a b lx ly hx hy = false) : pwN o a b lx ly hx hy = 0 ∧ pwV o a b lx ly hx hy = [] := by unfold pwN pwV; rw [h]; exact ⟨rfl, rfl⟩
theorem pw_yes {o : Bool} {a b lx ly hx hy : Int} (h : pwB o a b lx ly hx hy = true) : pwN o a b lx ly hx hy = (pwX o a lx hx).length * (pwX o b ly hy).length ∧ pwV o a b lx ly hx hy = places (pwX o a lx hx) (pwX o b ly hy) := by unfold pwN pwV; rw [h]; exact ⟨rfl, rfl⟩
theorem pw_le (o : Bool) (a b lx ly hx hy : Int) : pwN o a b lx ly hx hy ≤ 10000 := by
  unfold pwN
  split
  · rename_i h
    unfold pwB at h
    rw [Bool.and_eq_true] at h
    have := of_decide_eq_true h.2
    omega
  · exact Nat.zero_le _

set_option maxRecDepth 100000 in
set_option maxHeartbeats 4000000 in
theorem placesWith (o : Bool) (a b lx ly hx hy : Int) (w : World) :
    Calls Try.prog 37 #[.agg #[.bool o, .int .i64 a, .int .i64 b], .agg #[.int .i64 lx, .int .i64 ly], .agg #[.int .i64 hx, .int .i64 hy]] w
      fun e w' => ∃ v, e = .returned (.tuple #[v, .bool (pwB o a b lx ly hx hy)]) ∧ w'.ownsRow w.heap.size 25 2 v (pwN o a b lx ly hx hy) (cellsI (pwV o a b lx ly hx hy)) ∧ Below w.heap.size w w' := by
  have hv := fun w => isValidReport o a b w
  have hp := fun (W : World) (g : Nat) (hg : W.heap.size = g) => places_new lx ly hx hy W g hg
  have A0 := Lib.hid (((newS 29 #[.bool o, .int .i64 a, .int .i64 b] w).alloc (.cells #[.int .i64 lx, .int .i64 ly] 25)).alloc (.cells #[.int .i64 hx, .int .i64 hy] 25))
  have B0 := Lib.hid (((newS 29 #[.bool o, .int .i64 a, .int .i64 b] w).next 25 #[.int .i64 lx, .int .i64 ly]).alloc (.cells #[.int .i64 hx, .int .i64 hy] 25))
  have C0 := Lib.hid (((newS 29 #[.bool o, .int .i64 a, .int .i64 b] w).alloc (.cells #[.int .i64 lx, .int .i64 ly] 25)).next 25 #[.int .i64 hx, .int .i64 hy])
  rw [World.size_alloc] at B0
  rw [World.size_alloc, World.size_alloc] at C0
  have HB := Lib.hid (show pwB o a b lx ly hx hy = ((rB o a b && pB lx ly && pB hx hy && decide (lx ≤ hx) && decide (ly ≤ hy)) && decide ((pwX o a lx hx).length * (pwX o b ly hy).length ≤ 400)) from rfl)
  cases hq : rB o a b
  · have HQ := Lib.hid hq
    rw [hq] at hv
    have HV := Lib.hid hv
    clear hv hq hp
    have HF := Lib.hid (show pwB o a b lx ly hx hy = false by rw [HB.out, HQ.out]; rfl)
    have HR := Lib.hid (pw_no HF.out)
    go_enter Try.func37, Try.ntmps37
    go_wp2_with fail
    generalize (((w.alloc (.cells #[.bool o, .int .i64 a, .int .i64 b] 29)).alloc (.cells #[.int .i64 lx, .int .i64 ly] 25)).alloc (.cells #[.int .i64 hx, .int .i64 hy] 25)) = W at *
    refine (HV.out W).mono ?_
    rintro e w1 ⟨rfl, hb1⟩
    have A1 := Lib.hid (A0.out.old hb1)
    have B1 := Lib.hid (B0.out.old hb1)
    have C1 := Lib.hid (C0.out.old hb1)
    clear hb1 A0 B0 C0
    have a_0 : w1.cell? ⟨w.heap.size, 0, none⟩ = some (.bool o) := A1.out.cell 0
    have a_1 : w1.cell? ⟨w.heap.size, 1, none⟩ = some (.int .i64 a) := A1.out.cell 1
    have a_2 : w1.cell? ⟨w.heap.size, 2, none⟩ = some (.int .i64 b) := A1.out.cell 2
    have b_0 : w1.cell? ⟨w.heap.size + 1, 0, none⟩ = some (.int .i64 lx) := B1.out.cell 0
    have b_1 : w1.cell? ⟨w.heap.size + 1, 1, none⟩ = some (.int .i64 ly) := B1.out.cell 1
    have c_0 : w1.cell? ⟨w.heap.size + 1 + 1, 0, none⟩ = some (.int .i64 hx) := C1.out.cell 0
    have c_1 : w1.cell? ⟨w.heap.size + 1 + 1, 1, none⟩ = some (.int .i64 hy) := C1.out.cell 1
    go_wp2_with fail
    go_ret2
    exact ⟨_, by rw [HF.out]; rfl, by rw [HR.out.1, HR.out.2]; exact World.ownsRow_nil _ _ _ _, A1.out.1⟩
  · have HQ := Lib.hid hq
    rw [hq] at hv
    have HV := Lib.hid hv
    clear hv hq
    cases hq : (pB lx ly && pB hx hy)
    · have HQ2 := Lib.hid hq
      rw [hq] at hp
      have HP := Lib.hid hp
      clear hp hq
      have HF := Lib.hid (show pwB o a b lx ly hx hy = false by rw [HB.out, Bool.and_assoc (rB o a b), HQ2.out]; simp)
      have HR := Lib.hid (pw_no HF.out)
      go_enter Try.func37, Try.ntmps37
      go_wp2_with fail
      generalize (((w.alloc (.cells #[.bool o, .int .i64 a, .int .i64 b] 29)).alloc (.cells #[.int .i64 lx, .int .i64 ly] 25)).alloc (.cells #[.int .i64 hx, .int .i64 hy] 25)) = W at *
      refine (HV.out W).mono ?_
      rintro e w1 ⟨rfl, hb1⟩
      have A1 := Lib.hid (A0.out.old hb1)
      have B1 := Lib.hid (B0.out.old hb1)
      have C1 := Lib.hid (C0.out.old hb1)
      clear hb1 A0 B0 C0
      have a_0 : w1.cell? ⟨w.heap.size, 0, none⟩ = some (.bool o) := A1.out.cell 0
      have a_1 : w1.cell? ⟨w.heap.size, 1, none⟩ = some (.int .i64 a) := A1.out.cell 1
      have a_2 : w1.cell? ⟨w.heap.size, 2, none⟩ = some (.int .i64 b) := A1.out.cell 2
      have b_0 : w1.cell? ⟨w.heap.size + 1, 0, none⟩ = some (.int .i64 lx) := B1.out.cell 0
      have b_1 : w1.cell? ⟨w.heap.size + 1, 1, none⟩ = some (.int .i64 ly) := B1.out.cell 1
      have c_0 : w1.cell? ⟨w.heap.size + 1 + 1, 0, none⟩ = some (.int .i64 hx) := C1.out.cell 0
      have c_1 : w1.cell? ⟨w.heap.size + 1 + 1, 1, none⟩ = some (.int .i64 hy) := C1.out.cell 1
      go_wp2_with fail
      have HK := Lib.hid (A1.out.1)
      refine (HP.out w1 _ rfl).mono ?_
      rintro e w2 ⟨rfl, hb2⟩
      clear a_0 a_1 a_2 b_0 b_1 c_0 c_1
      have A2 := Lib.hid (A1.out.old hb2)
      have B2 := Lib.hid (B1.out.old hb2)
      have C2 := Lib.hid (C1.out.old hb2)
      clear hb2 A1 B1 C1
      have a_0 : w2.cell? ⟨w.heap.size, 0, none⟩ = some (.bool o) := A2.out.cell 0
      have a_1 : w2.cell? ⟨w.heap.size, 1, none⟩ = some (.int .i64 a) := A2.out.cell 1
      have a_2 : w2.cell? ⟨w.heap.size, 2, none⟩ = some (.int .i64 b) := A2.out.cell 2
      have b_0 : w2.cell? ⟨w.heap.size + 1, 0, none⟩ = some (.int .i64 lx) := B2.out.cell 0
      have b_1 : w2.cell? ⟨w.heap.size + 1, 1, none⟩ = some (.int .i64 ly) := B2.out.cell 1
      have c_0 : w2.cell? ⟨w.heap.size + 1 + 1, 0, none⟩ = some (.int .i64 hx) := C2.out.cell 0
      have c_1 : w2.cell? ⟨w.heap.size + 1 + 1, 1, none⟩ = some (.int .i64 hy) := C2.out.cell 1
      go_wp2_with fail
      go_ret2
      exact ⟨_, by rw [HF.out]; rfl, by rw [HR.out.1, HR.out.2]; exact World.ownsRow_nil _ _ _ _, A2.out.1⟩
    · have HQ2 := Lib.hid hq
      rw [hq] at hp
      have HP := Lib.hid hp
      clear hp hq
      by_cases x1 : hx < lx
      · have hd : decide (lx ≤ hx) = false := decide_eq_false (by omega)
        have HF := Lib.hid (show pwB o a b lx ly hx hy = false by rw [HB.out, hd]; simp)
        have HR := Lib.hid (pw_no HF.out)
        go_enter Try.func37, Try.ntmps37
        go_wp2_with fail
        generalize (((w.alloc (.cells #[.bool o, .int .i64 a, .int .i64 b] 29)).alloc (.cells #[.int .i64 lx, .int .i64 ly] 25)).alloc (.cells #[.int .i64 hx, .int .i64 hy] 25)) = W at *
        refine (HV.out W).mono ?_
        rintro e w1 ⟨rfl, hb1⟩
        have A1 := Lib.hid (A0.out.old hb1)
        have B1 := Lib.hid (B0.out.old hb1)
        have C1 := Lib.hid (C0.out.old hb1)
        clear hb1 A0 B0 C0
        have a_0 : w1.cell? ⟨w.heap.size, 0, none⟩ = some (.bool o) := A1.out.cell 0
        have a_1 : w1.cell? ⟨w.heap.size, 1, none⟩ = some (.int .i64 a) := A1.out.cell 1
        have a_2 : w1.cell? ⟨w.heap.size, 2, none⟩ = some (.int .i64 b) := A1.out.cell 2
        have b_0 : w1.cell? ⟨w.heap.size + 1, 0, none⟩ = some (.int .i64 lx) := B1.out.cell 0
        have b_1 : w1.cell? ⟨w.heap.size + 1, 1, none⟩ = some (.int .i64 ly) := B1.out.cell 1
        have c_0 : w1.cell? ⟨w.heap.size + 1 + 1, 0, none⟩ = some (.int .i64 hx) := C1.out.cell 0
        have c_1 : w1.cell? ⟨w.heap.size + 1 + 1, 1, none⟩ = some (.int .i64 hy) := C1.out.cell 1
        go_wp2_with fail
        have HK := Lib.hid (A1.out.1)
        refine (HP.out w1 _ rfl).mono ?_
        rintro e w2 ⟨rfl, hb2⟩
        clear a_0 a_1 a_2 b_0 b_1 c_0 c_1
        have A2 := Lib.hid (A1.out.old hb2)
        have B2 := Lib.hid (B1.out.old hb2)
        have C2 := Lib.hid (C1.out.old hb2)
        clear hb2 A1 B1 C1
        have a_0 : w2.cell? ⟨w.heap.size, 0, none⟩ = some (.bool o) := A2.out.cell 0
        have a_1 : w2.cell? ⟨w.heap.size, 1, none⟩ = some (.int .i64 a) := A2.out.cell 1
        have a_2 : w2.cell? ⟨w.heap.size, 2, none⟩ = some (.int .i64 b) := A2.out.cell 2
        have b_0 : w2.cell? ⟨w.heap.size + 1, 0, none⟩ = some (.int .i64 lx) := B2.out.cell 0
        have b_1 : w2.cell? ⟨w.heap.size + 1, 1, none⟩ = some (.int .i64 ly) := B2.out.cell 1
        have c_0 : w2.cell? ⟨w.heap.size + 1 + 1, 0, none⟩ = some (.int .i64 hx) := C2.out.cell 0
        have c_1 : w2.cell? ⟨w.heap.size + 1 + 1, 1, none⟩ = some (.int .i64 hy) := C2.out.cell 1
        go_wp2_with fail
        go_ret2
        exact ⟨_, by rw [HF.out]; rfl, by rw [HR.out.1, HR.out.2]; exact World.ownsRow_nil _ _ _ _, A2.out.1⟩
      · have x2 : decide (hx < lx) = false := decide_eq_false x1
        by_cases y1 : hy < ly
        · have hd : decide (ly ≤ hy) = false := decide_eq_false (by omega)
          have HF := Lib.hid (show pwB o a b lx ly hx hy = false by rw [HB.out, hd]; simp)
          have HR := Lib.hid (pw_no HF.out)
          go_enter Try.func37, Try.ntmps37
          go_wp2_with fail
          generalize (((w.alloc (.cells #[.bool o, .int .i64 a, .int .i64 b] 29)).alloc (.cells #[.int .i64 lx, .int .i64 ly] 25)).alloc (.cells #[.int .i64 hx, .int .i64 hy] 25)) = W at *
          refine (HV.out W).mono ?_
          rintro e w1 ⟨rfl, hb1⟩
          have A1 := Lib.hid (A0.out.old hb1)
          have B1 := Lib.hid (B0.out.old hb1)
          have C1 := Lib.hid (C0.out.old hb1)
          clear hb1 A0 B0 C0
          have a_0 : w1.cell? ⟨w.heap.size, 0, none⟩ = some (.bool o) := A1.out.cell 0
          have a_1 : w1.cell? ⟨w.heap.size, 1, none⟩ = some (.int .i64 a) := A1.out.cell 1
          have a_2 : w1.cell? ⟨w.heap.size, 2, none⟩ = some (.int .i64 b) := A1.out.cell 2
          have b_0 : w1.cell? ⟨w.heap.size + 1, 0, none⟩ = some (.int .i64 lx) := B1.out.cell 0
          have b_1 : w1.cell? ⟨w.heap.size + 1, 1, none⟩ = some (.int .i64 ly) := B1.out.cell 1
          have c_0 : w1.cell? ⟨w.heap.size + 1 + 1, 0, none⟩ = some (.int .i64 hx) := C1.out.cell 0
          have c_1 : w1.cell? ⟨w.heap.size + 1 + 1, 1, none⟩ = some (.int .i64 hy) := C1.out.cell 1
          go_wp2_with fail
          have HK := Lib.hid (A1.out.1)
          refine (HP.out w1 _ rfl).mono ?_
          rintro e w2 ⟨rfl, hb2⟩
          clear a_0 a_1 a_2 b_0 b_1 c_0 c_1
          have A2 := Lib.hid (A1.out.old hb2)
          have B2 := Lib.hid (B1.out.old hb2)
          have C2 := Lib.hid (C1.out.old hb2)
          clear hb2 A1 B1 C1
          have a_0 : w2.cell? ⟨w.heap.size, 0, none⟩ = some (.bool o) := A2.out.cell 0
          have a_1 : w2.cell? ⟨w.heap.size, 1, none⟩ = some (.int .i64 a) := A2.out.cell 1
          have a_2 : w2.cell? ⟨w.heap.size, 2, none⟩ = some (.int .i64 b) := A2.out.cell 2
          have b_0 : w2.cell? ⟨w.heap.size + 1, 0, none⟩ = some (.int .i64 lx) := B2.out.cell 0
          have b_1 : w2.cell? ⟨w.heap.size + 1, 1, none⟩ = some (.int .i64 ly) := B2.out.cell 1
          have c_0 : w2.cell? ⟨w.heap.size + 1 + 1, 0, none⟩ = some (.int .i64 hx) := C2.out.cell 0
          have c_1 : w2.cell? ⟨w.heap.size + 1 + 1, 1, none⟩ = some (.int .i64 hy) := C2.out.cell 1
          go_wp2_with fail
          go_ret2
          exact ⟨_, by rw [HF.out]; rfl, by rw [HR.out.1, HR.out.2]; exact World.ownsRow_nil _ _ _ _, A2.out.1⟩
        · have y2 : decide (hy < ly) = false := decide_eq_false y1
          have x3 : decide (lx ≤ hx) = true := decide_eq_true (by omega)
          have y3 : decide (ly ≤ hy) = true := decide_eq_true (by omega)
          by_cases hN : (pwX o a lx hx).length * (pwX o b ly hy).length ≤ 400
          · have HF := Lib.hid (show pwB o a b lx ly hx hy = true by rw [HB.out, Bool.and_assoc (rB o a b), HQ.out, HQ2.out, x3, y3, decide_eq_true hN]; rfl)
            have HR := Lib.hid (pw_yes HF.out)
            clear x1 y1 x3 y3
            obtain ⟨ga, gb⟩ := rB_yes HQ.out
            have hq2 := HQ2.out
            rw [Bool.and_eq_true] at hq2
            obtain ⟨gl, gm⟩ := pB_yes hq2.1
            obtain ⟨gh, gk⟩ := pB_yes hq2.2
            have S := Lib.hid (fun w => posi.sizeOf o w)
            have X1 := Lib.hid (fun w => coordinatesWith a (sz o) lx hx (sz_or o) ga gl gh w)
            have X2 := Lib.hid (fun w => coordinatesWith b (sz o) ly hy (sz_or o) gb gm gk w)
            have lnx : (pwX o a lx hx).length ≤ 100 := up_len a (sz o) lx hx (sz_or o) ga gh.2
            have lny : (pwX o b ly hy).length ≤ 100 := up_len b (sz o) ly hy (sz_or o) gb gk.2
            have X1 := Lib.hid (show ∀ w, Calls Try.prog 61 #[.int .i64 a, .int .i64 (sz o), .int .i64 lx, .int .i64 hx] w fun e w' => ∃ v, e = .returned v ∧ w'.ownsRow w.heap.size 3 1 v (pwX o a lx hx).length (cellsI (pwX o a lx hx)) ∧ Below w.heap.size w w' from X1.out)
            have X2 := Lib.hid (show ∀ w, Calls Try.prog 61 #[.int .i64 b, .int .i64 (sz o), .int .i64 ly, .int .i64 hy] w fun e w' => ∃ v, e = .returned v ∧ w'.ownsRow w.heap.size 3 1 v (pwX o b ly hy).length (cellsI (pwX o b ly hy)) ∧ Below w.heap.size w w' from X2.out)
            generalize pwX o a lx hx = X at *
            generalize pwX o b ly hy = Y at *
            generalize sz o = s at *
            clear hq2 ga gb gl gm gh gk HQ HQ2 HB
            go_enter Try.func37, Try.ntmps37
            go_wp2_with fail
            generalize (((w.alloc (.cells #[.bool o, .int .i64 a, .int .i64 b] 29)).alloc (.cells #[.int .i64 lx, .int .i64 ly] 25)).alloc (.cells #[.int .i64 hx, .int .i64 hy] 25)) = W at *
            refine (HV.out W).mono ?_
            rintro e w1 ⟨rfl, hb1⟩
            have A1 := Lib.hid (A0.out.old hb1)
            have B1 := Lib.hid (B0.out.old hb1)
            have C1 := Lib.hid (C0.out.old hb1)
            clear hb1 A0 B0 C0
            have a_0 : w1.cell? ⟨w.heap.size, 0, none⟩ = some (.bool o) := A1.out.cell 0
            have a_1 : w1.cell? ⟨w.heap.size, 1, none⟩ = some (.int .i64 a) := A1.out.cell 1
            have a_2 : w1.cell? ⟨w.heap.size, 2, none⟩ = some (.int .i64 b) := A1.out.cell 2
            have b_0 : w1.cell? ⟨w.heap.size + 1, 0, none⟩ = some (.int .i64 lx) := B1.out.cell 0
            have b_1 : w1.cell? ⟨w.heap.size + 1, 1, none⟩ = some (.int .i64 ly) := B1.out.cell 1
            have c_0 : w1.cell? ⟨w.heap.size + 1 + 1, 0, none⟩ = some (.int .i64 hx) := C1.out.cell 0
            have c_1 : w1.cell? ⟨w.heap.size + 1 + 1, 1, none⟩ = some (.int .i64 hy) := C1.out.cell 1
            go_wp2_with fail
            have HK := Lib.hid (A1.out.1)
            refine (HP.out w1 _ rfl).mono ?_
            rintro e w2 ⟨rfl, hb2⟩
            clear a_0 a_1 a_2 b_0 b_1 c_0 c_1
            have A2 := Lib.hid (A1.out.old hb2)
            have B2 := Lib.hid (B1.out.old hb2)
            have C2 := Lib.hid (C1.out.old hb2)
            clear hb2 A1 B1 C1
            have a_0 : w2.cell? ⟨w.heap.size, 0, none⟩ = some (.bool o) := A2.out.cell 0
            have a_1 : w2.cell? ⟨w.heap.size, 1, none⟩ = some (.int .i64 a) := A2.out.cell 1
            have a_2 : w2.cell? ⟨w.heap.size, 2, none⟩ = some (.int .i64 b) := A2.out.cell 2
            have b_0 : w2.cell? ⟨w.heap.size + 1, 0, none⟩ = some (.int .i64 lx) := B2.out.cell 0
            have b_1 : w2.cell? ⟨w.heap.size + 1, 1, none⟩ = some (.int .i64 ly) := B2.out.cell 1
            have c_0 : w2.cell? ⟨w.heap.size + 1 + 1, 0, none⟩ = some (.int .i64 hx) := C2.out.cell 0
            have c_1 : w2.cell? ⟨w.heap.size + 1 + 1, 1, none⟩ = some (.int .i64 hy) := C2.out.cell 1
            go_wp2_with fail
            refine (S.out _).mono ?_
            rintro e w3 ⟨rfl, rfl⟩
            go_wp2_with fail
            refine (X1.out _).mono ?_
            rintro e w3 ⟨v, rfl, ho3, hb3⟩
            obtain ⟨Ax, cx, rfl⟩ := own_slice ho3
            have OX := Lib.hid (RdI.of_own ho3 rfl)
            clear ho3
            clear a_0 a_1 a_2 b_0 b_1 c_0 c_1
            have A3 := Lib.hid (A2.out.old hb3)
            have B3 := Lib.hid (B2.out.old hb3)
            have C3 := Lib.hid (C2.out.old hb3)
            clear hb3 A2 B2 C2
            have a_0 : w3.cell? ⟨w.heap.size, 0, none⟩ = some (.bool o) := A3.out.cell 0
            have a_1 : w3.cell? ⟨w.heap.size, 1, none⟩ = some (.int .i64 a) := A3.out.cell 1
            have a_2 : w3.cell? ⟨w.heap.size, 2, none⟩ = some (.int .i64 b) := A3.out.cell 2
            have b_0 : w3.cell? ⟨w.heap.size + 1, 0, none⟩ = some (.int .i64 lx) := B3.out.cell 0
            have b_1 : w3.cell? ⟨w.heap.size + 1, 1, none⟩ = some (.int .i64 ly) := B3.out.cell 1
            have c_0 : w3.cell? ⟨w.heap.size + 1 + 1, 0, none⟩ = some (.int .i64 hx) := C3.out.cell 0
            have c_1 : w3.cell? ⟨w.heap.size + 1 + 1, 1, none⟩ = some (.int .i64 hy) := C3.out.cell 1
            go_wp2_with fail
            refine (X2.out _).mono ?_
            rintro e w4 ⟨v, rfl, ho4, hb4⟩
            obtain ⟨Ay, cy, rfl⟩ := own_slice ho4
            have PX := Lib.hid (OX.out.next hb4)
            have PY := Lib.hid (RdI.of_own ho4 rfl)
            clear a_0 a_1 a_2 b_0 b_1 c_0 c_1
            have A4 := Lib.hid (A3.out.old hb4)
            have B4 := Lib.hid (B3.out.old hb4)
            have C4 := Lib.hid (C3.out.old hb4)
            clear hb4 ho4 OX A3 B3 C3
            have hw : IntKind.i64.wrap ((X.length : Int) * (Y.length : Int)) = ((X.length * Y.length : Nat) : Int) := by
              have h2 : X.length * Y.length ≤ 100 * 100 := Nat.mul_le_mul lnx lny
              rw [← Int.natCast_mul]
              exact IntWalk.i64_in _ (by omega)
            have hgt : decide ((400 : Int) < ((X.length * Y.length : Nat) : Int)) = false := decide_eq_false (by omega)
            have P := Lib.hid (placesAt X Y Ax Ay X.length cx Y.length cy (by omega) (by omega) w4 PX.out PY.out)
            generalize X.length * Y.length = N at *
            go_wp2_with fail
            refine P.out.mono ?_
            rintro e w6 ⟨v, rfl, ho6, hb6⟩
            have HO := Lib.hid (own_.own_base ho6 A4.out.1.size)
            have HX := Lib.hid (A4.out.1.trans (hb6.mono A4.out.1.size))
            clear ho6 hb6
            go_wp2_with fail
            go_ret2
            exact ⟨_, by rw [HF.out]; rfl, by rw [HR.out.1, HR.out.2]; exact HO.out, HX.out⟩
          · have HF := Lib.hid (show pwB o a b lx ly hx hy = false by rw [HB.out, decide_eq_false hN]; simp)
            have HR := Lib.hid (pw_no HF.out)
            clear x1 y1 x3 y3
            obtain ⟨ga, gb⟩ := rB_yes HQ.out
            have hq2 := HQ2.out
            rw [Bool.and_eq_true] at hq2
            obtain ⟨gl, gm⟩ := pB_yes hq2.1
            obtain ⟨gh, gk⟩ := pB_yes hq2.2
            have S := Lib.hid (fun w => posi.sizeOf o w)
            have X1 := Lib.hid (fun w => coordinatesWith a (sz o) lx hx (sz_or o) ga gl gh w)
            have X2 := Lib.hid (fun w => coordinatesWith b (sz o) ly hy (sz_or o) gb gm gk w)
            have lnx : (pwX o a lx hx).length ≤ 100 := up_len a (sz o) lx hx (sz_or o) ga gh.2
            have lny : (pwX o b ly hy).length ≤ 100 := up_len b (sz o) ly hy (sz_or o) gb gk.2
            have X1 := Lib.hid (show ∀ w, Calls Try.prog 61 #[.int .i64 a, .int .i64 (sz o), .int .i64 lx, .int .i64 hx] w fun e w' => ∃ v, e = .returned v ∧ w'.ownsRow w.heap.size 3 1 v (pwX o a lx hx).length (cellsI (pwX o a lx hx)) ∧ Below w.heap.size w w' from X1.out)
            have X2 := Lib.hid (show ∀ w, Calls Try.prog 61 #[.int .i64 b, .int .i64 (sz o), .int .i64 ly, .int .i64 hy] w fun e w' => ∃ v, e = .returned v ∧ w'.ownsRow w.heap.size 3 1 v (pwX o b ly hy).length (cellsI (pwX o b ly hy)) ∧ Below w.heap.size w w' from X2.out)
            generalize pwX o a lx hx = X at *
            generalize pwX o b ly hy = Y at *
            generalize sz o = s at *
            clear hq2 ga gb gl gm gh gk HQ HQ2 HB
            go_enter Try.func37, Try.ntmps37
            go_wp2_with fail
            generalize (((w.alloc (.cells #[.bool o, .int .i64 a, .int .i64 b] 29)).alloc (.cells #[.int .i64 lx, .int .i64 ly] 25)).alloc (.cells #[.int .i64 hx, .int .i64 hy] 25)) = W at *
            refine (HV.out W).mono ?_
            rintro e w1 ⟨rfl, hb1⟩
            have A1 := Lib.hid (A0.out.old hb1)
            have B1 := Lib.hid (B0.out.old hb1)
            have C1 := Lib.hid (C0.out.old hb1)
            clear hb1 A0 B0 C0
            have a_0 : w1.cell? ⟨w.heap.size, 0, none⟩ = some (.bool o) := A1.out.cell 0
            have a_1 : w1.cell? ⟨w.heap.size, 1, none⟩ = some (.int .i64 a) := A1.out.cell 1
            have a_2 : w1.cell? ⟨w.heap.size, 2, none⟩ = some (.int .i64 b) := A1.out.cell 2
            have b_0 : w1.cell? ⟨w.heap.size + 1, 0, none⟩ = some (.int .i64 lx) := B1.out.cell 0
            have b_1 : w1.cell? ⟨w.heap.size + 1, 1, none⟩ = some (.int .i64 ly) := B1.out.cell 1
            have c_0 : w1.cell? ⟨w.heap.size + 1 + 1, 0, none⟩ = some (.int .i64 hx) := C1.out.cell 0
            have c_1 : w1.cell? ⟨w.heap.size + 1 + 1, 1, none⟩ = some (.int .i64 hy) := C1.out.cell 1
            go_wp2_with fail
            have HK := Lib.hid (A1.out.1)
            refine (HP.out w1 _ rfl).mono ?_
            rintro e w2 ⟨rfl, hb2⟩
            clear a_0 a_1 a_2 b_0 b_1 c_0 c_1
            have A2 := Lib.hid (A1.out.old hb2)
            have B2 := Lib.hid (B1.out.old hb2)
            have C2 := Lib.hid (C1.out.old hb2)
            clear hb2 A1 B1 C1
            have a_0 : w2.cell? ⟨w.heap.size, 0, none⟩ = some (.bool o) := A2.out.cell 0
            have a_1 : w2.cell? ⟨w.heap.size, 1, none⟩ = some (.int .i64 a) := A2.out.cell 1
            have a_2 : w2.cell? ⟨w.heap.size, 2, none⟩ = some (.int .i64 b) := A2.out.cell 2
            have b_0 : w2.cell? ⟨w.heap.size + 1, 0, none⟩ = some (.int .i64 lx) := B2.out.cell 0
            have b_1 : w2.cell? ⟨w.heap.size + 1, 1, none⟩ = some (.int .i64 ly) := B2.out.cell 1
            have c_0 : w2.cell? ⟨w.heap.size + 1 + 1, 0, none⟩ = some (.int .i64 hx) := C2.out.cell 0
            have c_1 : w2.cell? ⟨w.heap.size + 1 + 1, 1, none⟩ = some (.int .i64 hy) := C2.out.cell 1
            go_wp2_with fail
            refine (S.out _).mono ?_
            rintro e w3 ⟨rfl, rfl⟩
            go_wp2_with fail
            refine (X1.out _).mono ?_
            rintro e w3 ⟨v, rfl, ho3, hb3⟩
            obtain ⟨Ax, cx, rfl⟩ := own_slice ho3
            have OX := Lib.hid (RdI.of_own ho3 rfl)
            clear ho3
            clear a_0 a_1 a_2 b_0 b_1 c_0 c_1
            have A3 := Lib.hid (A2.out.old hb3)
            have B3 := Lib.hid (B2.out.old hb3)
            have C3 := Lib.hid (C2.out.old hb3)
            clear hb3 A2 B2 C2
            have a_0 : w3.cell? ⟨w.heap.size, 0, none⟩ = some (.bool o) := A3.out.cell 0
            have a_1 : w3.cell? ⟨w.heap.size, 1, none⟩ = some (.int .i64 a) := A3.out.cell 1
            have a_2 : w3.cell? ⟨w.heap.size, 2, none⟩ = some (.int .i64 b) := A3.out.cell 2
            have b_0 : w3.cell? ⟨w.heap.size + 1, 0, none⟩ = some (.int .i64 lx) := B3.out.cell 0
            have b_1 : w3.cell? ⟨w.heap.size + 1, 1, none⟩ = some (.int .i64 ly) := B3.out.cell 1
            have c_0 : w3.cell? ⟨w.heap.size + 1 + 1, 0, none⟩ = some (.int .i64 hx) := C3.out.cell 0
            have c_1 : w3.cell? ⟨w.heap.size + 1 + 1, 1, none⟩ = some (.int .i64 hy) := C3.out.cell 1
            go_wp2_with fail
            refine (X2.out _).mono ?_
            rintro e w4 ⟨v, rfl, ho4, hb4⟩
            obtain ⟨Ay, cy, rfl⟩ := own_slice ho4
            have PX := Lib.hid (OX.out.next hb4)
            have PY := Lib.hid (RdI.of_own ho4 rfl)
            clear a_0 a_1 a_2 b_0 b_1 c_0 c_1
            have A4 := Lib.hid (A3.out.old hb4)
            have B4 := Lib.hid (B3.out.old hb4)
            have C4 := Lib.hid (C3.out.old hb4)
            clear hb4 ho4 OX A3 B3 C3
            have hw : IntKind.i64.wrap ((X.length : Int) * (Y.length : Int)) = ((X.length * Y.length : Nat) : Int) := by
              have h2 : X.length * Y.length ≤ 100 * 100 := Nat.mul_le_mul lnx lny
              rw [← Int.natCast_mul]
              exact IntWalk.i64_in _ (by omega)
            have hgt : decide ((400 : Int) < ((X.length * Y.length : Nat) : Int)) = true := decide_eq_true (by omega)
            generalize X.length * Y.length = N at *
            go_wp2_with fail
            go_ret2
            exact ⟨_, by rw [HF.out]; rfl, by rw [HR.out.1, HR.out.2]; exact World.ownsRow_nil _ _ _ _, A4.out.1⟩
end Go.Proofs.Ytkmmogdiekillaa.posr
