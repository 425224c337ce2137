/- spec's sightings: l13Second, l13Address, l13Good, IsValidSightings, l13Asked, l13Twin. -/
import Derived.BigQuiet
import Derived.Deep.QuietTactic
import Derived.Deep.CutRange
import Derived.Test.YtdjcbfeilkepmaaDoorPltM
import Derived.Test.YtdjcbfeilkepmaaDoorPltE
import Derived.Test.YtdjcbfeilkepmaaDoorPosS
import Derived.Lib.QuietBelow
namespace Go.Proofs.YtdjcbfeilkepmaaDoor.plts
open Go.RowKit Go.Proofs.YtdjcbfeilkepmaaDoor.ints Go.Proofs.YtdjcbfeilkepmaaDoor.lst Go.Proofs.YtdjcbfeilkepmaaDoor.in_ Go.Proofs.YtdjcbfeilkepmaaDoor.ats Go.Proofs.YtdjcbfeilkepmaaDoor.pos Go.Proofs.YtdjcbfeilkepmaaDoor.plt Go.Proofs.YtdjcbfeilkepmaaDoor.pltm Go.Proofs.YtdjcbfeilkepmaaDoor.plte

theorem grows {P : Program} {f : FuncId} {args : Array Value} {w : World} {v : Value} (h : Calls P f args w fun e w' => e = .returned v ∧ w = w') : Calls P f args w fun e w' => e = .returned v ∧ Below w.heap.size w w' :=
  h.mono fun _ _ ⟨he, hw⟩ => ⟨he, hw ▸ Below.refl _ _⟩
theorem second13 (x : Int) (w : World) :
    Calls Tryd.prog 64 #[.int .i64 x] w fun e w' => e = .returned (.bool (isIn x 0 86400)) ∧ w = w' := by
  have H := Lib.hid (fun w => l1In x 0 86400 w)
  generalize isIn x 0 86400 = b at *
  go_enter Tryd.func64, Tryd.ntmps64
  go_wp2_with fail
  refine (H.out _).mono ?_
  rintro e w1 ⟨rfl, rfl⟩
  go_wp2_with fail
  go_ret
  exact ⟨rfl, rfl⟩
theorem address13 (x : Int) (w : World) :
    Calls Tryd.prog 65 #[.int .i64 x] w fun e w' => e = .returned (.bool (isIn x 1 65535)) ∧ w = w' := by
  have H := Lib.hid (fun w => l1In x 1 65535 w)
  generalize isIn x 1 65535 = b at *
  go_enter Tryd.func65, Tryd.ntmps65
  go_wp2_with fail
  refine (H.out _).mono ?_
  rintro e w1 ⟨rfl, rfl⟩
  go_wp2_with fail
  go_ret
  exact ⟨rfl, rfl⟩
theorem most13 (x : Int) (w : World) (h0 : -8000000 ≤ x) (h1 : x ≤ 8000000) :
    Calls Tryd.prog 98 #[.int .i64 x, .int .i64 (-x)] w fun e w' => e = .returned (.int .i64 (x.natAbs : Int)) ∧ w = w' := by
  by_cases h : 0 < x
  · have e1 : (x.natAbs : Int) = x := by omega
    rw [e1]
    have g : decide (-x < x) = true := decide_eq_true (by omega)
    clear e1
    go_enter Tryd.func98, Tryd.ntmps98
    go_wp2_with fail
    go_ret
    exact ⟨rfl, rfl⟩
  · have e1 : (x.natAbs : Int) = -x := by omega
    rw [e1]
    have g : decide (-x < x) = false := decide_eq_false (by omega)
    clear e1
    go_enter Tryd.func98, Tryd.ntmps98
    go_wp2_with fail
    go_ret
    exact ⟨rfl, rfl⟩
theorem size13 (x : Int) (w : World) (h0 : -8000000 ≤ x) (h1 : x ≤ 8000000) :
    Calls Tryd.prog 93 #[.int .i64 x] w fun e w' => e = .returned (.int .i64 (x.natAbs : Int)) ∧ w = w' := by
  have H1 := Lib.hid (fun w => most13 x w h0 h1)
  generalize (x.natAbs : Int) = v at *
  go_enter Tryd.func93, Tryd.ntmps93
  go_wp2_with fail
  refine (H1.out _).mono ?_
  rintro e w1 ⟨rfl, rfl⟩
  go_wp2_with fail
  go_ret
  exact ⟨rfl, rfl⟩
set_option maxRecDepth 100000 in
set_option maxHeartbeats 4000000 in
theorem good13 (zs : List Int) (A : Option Addr) (n c : Nat) (w : World) (hn : n ≤ 1048577) (h1 : RdZ 5 w w.heap.size A n zs) :
    Calls Tryd.prog 46 #[.slice A n c] w fun e w' => e = .returned (.bool (svB zs n)) ∧ Below w.heap.size w w' := by
  have HNO := Lib.hid (fun k (hk : k < n) (h : okT zs (k + 1) = false) => show svB zs n = false by unfold svB; rw [okT_cut h hk]; rfl)
  have HR := Lib.hid h1
  have HEND := Lib.hid (fun (h : okT zs n = true) => show svB zs n = decide ((n : Int) ≤ 20) by
    unfold svB
    rw [h, Bool.true_and]
    by_cases hb : n ≤ 20
    · rw [decide_eq_true hb, decide_eq_true (show (n : Int) ≤ 20 by omega)]
    · rw [decide_eq_false hb, decide_eq_false (show ¬ (n : Int) ≤ 20 by omega)])
  clear h1
  go_enter Tryd.func46, Tryd.ntmps46
  go_wp2_with fail
  go_loopw [3] (fun i wr => ∃ k : Nat, k ≤ n ∧ i = .int .i64 k ∧ Below w.heap.size w wr ∧ okT zs k = true) (fun i _ => n - (intOf i).toNat)
  case atStart => exact ⟨0, Nat.zero_le _, rfl, Below.refl _ _, rfl⟩
  case round =>
    obtain ⟨k, hk, rfl, hb, hck⟩ := hrel
    have HB := Lib.hid hb
    by_cases hlt : k < n
    · have hlt2 : (k : Int) < (n : Int) := by omega
      obtain ⟨b1, o1, rfl, l1, p0, p1, p2, p3, p4⟩ := cellsE (HR.out.below hb (Nat.le_refl _)) hlt
      have t1 := fun w => second13 (fld 5 zs k 0) w
      have t2 := fun w => l1In (fld 5 zs k 1) 1 9 w
      have t3 := fun w => address13 (fld 5 zs k 2) w
      have t4 := fun w => poss.good7 (fld 5 zs k 3) (fld 5 zs k 4) w
      have HO := Lib.hid (show okT zs (k + 1) = ((isIn (fld 5 zs k 0) 0 86400 && (isIn (fld 5 zs k 1) 1 9 && (isIn (fld 5 zs k 2) 1 65535 && pB (fld 5 zs k 3) (fld 5 zs k 4)))) && (decide (k = 0) || decide (fld 5 zs (k - 1) 0 ≤ fld 5 zs k 0))) by
        rw [show okT zs (k + 1) = (okT zs k && (sgK zs k && (decide (k = 0) || decide (fld 5 zs (k - 1) 0 ≤ fld 5 zs k 0)))) from rfl, hck, Bool.true_and]; rfl)
      have HNk := Lib.hid (HNO.out k hlt)
      have HZ := Lib.hid (show 0 < k → ∃ p, p + 1 = k ∧ (Value.slice (some ⟨b1, o1, none⟩) n c = Value.slice (some ⟨b1, o1, none⟩) n c) ∧ wr.cell? ⟨b1, o1 + p * 5, none⟩ = some (.int .i64 (fld 5 zs p 0)) from fun h0 => by
        obtain ⟨b2, o2, eA, l2, q0, -⟩ := cellsE (HR.out.below hb (Nat.le_refl _)) (show k - 1 < n by omega)
        obtain ⟨rfl, rfl⟩ : b1 = b2 ∧ o1 = o2 := by injection eA with e; injection e with e1 e2; exact ⟨e1, e2⟩
        exact ⟨k - 1, by omega, rfl, q0⟩)
      clear hb hck HNO HEND
      generalize fld 5 zs k 1 = u1 at *
      generalize fld 5 zs k 2 = u2 at *
      generalize fld 5 zs k 3 = u3 at *
      generalize fld 5 zs k 4 = u4 at *
      generalize hu0 : fld 5 zs k 0 = u0 at *
      cases ha : isIn u0 0 86400
      · have HN := Lib.hid (HNk.out (by rw [HO.out, ha]; rfl))
        rw [ha] at t1
        clear ha HO HZ hu0
        go_upto_region 5 with fail
        have HW := Lib.hid (HB.out.trans (((Below.refl wr.heap.size wr).alloc (Nat.le_refl _) (.cells #[.int .i64 u0, .int .i64 u1, .int .i64 u2, .int .i64 u3, .int .i64 u4] 72)).mono HB.out.size))
        have a0 : (wr.alloc (.cells #[.int .i64 u0, .int .i64 u1, .int .i64 u2, .int .i64 u3, .int .i64 u4] 72)).cell? ⟨wr.heap.size, 0, none⟩ = some (.int .i64 u0) := (newS 72 #[.int .i64 u0, .int .i64 u1, .int .i64 u2, .int .i64 u3, .int .i64 u4] wr).cell 0
        have a1 : (wr.alloc (.cells #[.int .i64 u0, .int .i64 u1, .int .i64 u2, .int .i64 u3, .int .i64 u4] 72)).cell? ⟨wr.heap.size, 1, none⟩ = some (.int .i64 u1) := (newS 72 #[.int .i64 u0, .int .i64 u1, .int .i64 u2, .int .i64 u3, .int .i64 u4] wr).cell 1
        have a2 : (wr.alloc (.cells #[.int .i64 u0, .int .i64 u1, .int .i64 u2, .int .i64 u3, .int .i64 u4] 72)).cell? ⟨wr.heap.size, 2, none⟩ = some (.int .i64 u2) := (newS 72 #[.int .i64 u0, .int .i64 u1, .int .i64 u2, .int .i64 u3, .int .i64 u4] wr).cell 2
        have a3 : (wr.alloc (.cells #[.int .i64 u0, .int .i64 u1, .int .i64 u2, .int .i64 u3, .int .i64 u4] 72)).cell? ⟨wr.heap.size, 3, none⟩ = some (.int .i64 u3) := (newS 72 #[.int .i64 u0, .int .i64 u1, .int .i64 u2, .int .i64 u3, .int .i64 u4] wr).cell 3
        have a4 : (wr.alloc (.cells #[.int .i64 u0, .int .i64 u1, .int .i64 u2, .int .i64 u3, .int .i64 u4] 72)).cell? ⟨wr.heap.size, 4, none⟩ = some (.int .i64 u4) := (newS 72 #[.int .i64 u0, .int .i64 u1, .int .i64 u2, .int .i64 u3, .int .i64 u4] wr).cell 4
        generalize hpb : wr.heap.size = pb at *
        generalize hW0 : wr.alloc (.cells #[.int .i64 u0, .int .i64 u1, .int .i64 u2, .int .i64 u3, .int .i64 u4] 72) = W0 at *
        clear hW0 hpb p0 p1 p2 p3 p4
        have T1 := Lib.hid (fun w d0 os => Calls.regrown_of (grows (t1 (Sort.grow (redrawn w d0) os))))
        clear t1 t2 t3 t4
        have a0' := fun d0 os => cell_regrown a0 d0 os
        have a1' := fun d0 os => cell_regrown a1 d0 os
        have a2' := fun d0 os => cell_regrown a2 d0 os
        have a3' := fun d0 os => cell_regrown a3 d0 os
        have a4' := fun d0 os => cell_regrown a4 d0 os
        clear a0 a1 a2 a3 a4
        refine wp_region_quiet_below (by kernel_rfl) (by kernel_rfl) ?_
        repeat (
          with_reducible refine wpQuiet_step (fun K hK => ?_)
          go_simp
          first
            | (refine hK _ ?_; clear hK K)
            | (apply Exists.intro
               refine ⟨fun _ => ?_, hK _ ?_⟩
               (first
                 | (go_at_call 64; with_reducible exact T1.out _ _ _))
               clear hK K))
        with_reducible refine wpQuiet_nil ?_
        intro _ hw'
        obtain ⟨⟨dq, osq⟩, hw''⟩ := hw'
        subst hw''
        have hbl := (below_regrown W0 dq osq)
        clear a0' a1' a2' a3' a4'
        generalize Sort.grow (redrawn W0 dq) osq = w3 at *
        have hbq := Lib.hid (HW.out.trans (hbl.mono HW.out.size))
        clear HW hbl
        go_wp2_with fail
        go_ret
        exact ⟨by rw [HN.out]; rfl, hbq.out⟩
      cases hb2 : isIn u1 1 9
      · have HN := Lib.hid (HNk.out (by rw [HO.out, ha, hb2]; rfl))
        rw [ha] at t1
        rw [hb2] at t2
        clear ha hb2 HO HZ hu0
        go_upto_region 5 with fail
        have HW := Lib.hid (HB.out.trans (((Below.refl wr.heap.size wr).alloc (Nat.le_refl _) (.cells #[.int .i64 u0, .int .i64 u1, .int .i64 u2, .int .i64 u3, .int .i64 u4] 72)).mono HB.out.size))
        have a0 : (wr.alloc (.cells #[.int .i64 u0, .int .i64 u1, .int .i64 u2, .int .i64 u3, .int .i64 u4] 72)).cell? ⟨wr.heap.size, 0, none⟩ = some (.int .i64 u0) := (newS 72 #[.int .i64 u0, .int .i64 u1, .int .i64 u2, .int .i64 u3, .int .i64 u4] wr).cell 0
        have a1 : (wr.alloc (.cells #[.int .i64 u0, .int .i64 u1, .int .i64 u2, .int .i64 u3, .int .i64 u4] 72)).cell? ⟨wr.heap.size, 1, none⟩ = some (.int .i64 u1) := (newS 72 #[.int .i64 u0, .int .i64 u1, .int .i64 u2, .int .i64 u3, .int .i64 u4] wr).cell 1
        have a2 : (wr.alloc (.cells #[.int .i64 u0, .int .i64 u1, .int .i64 u2, .int .i64 u3, .int .i64 u4] 72)).cell? ⟨wr.heap.size, 2, none⟩ = some (.int .i64 u2) := (newS 72 #[.int .i64 u0, .int .i64 u1, .int .i64 u2, .int .i64 u3, .int .i64 u4] wr).cell 2
        have a3 : (wr.alloc (.cells #[.int .i64 u0, .int .i64 u1, .int .i64 u2, .int .i64 u3, .int .i64 u4] 72)).cell? ⟨wr.heap.size, 3, none⟩ = some (.int .i64 u3) := (newS 72 #[.int .i64 u0, .int .i64 u1, .int .i64 u2, .int .i64 u3, .int .i64 u4] wr).cell 3
        have a4 : (wr.alloc (.cells #[.int .i64 u0, .int .i64 u1, .int .i64 u2, .int .i64 u3, .int .i64 u4] 72)).cell? ⟨wr.heap.size, 4, none⟩ = some (.int .i64 u4) := (newS 72 #[.int .i64 u0, .int .i64 u1, .int .i64 u2, .int .i64 u3, .int .i64 u4] wr).cell 4
        generalize hpb : wr.heap.size = pb at *
        generalize hW0 : wr.alloc (.cells #[.int .i64 u0, .int .i64 u1, .int .i64 u2, .int .i64 u3, .int .i64 u4] 72) = W0 at *
        clear hW0 hpb p0 p1 p2 p3 p4
        have T1 := Lib.hid (fun w d0 os => Calls.regrown_of (grows (t1 (Sort.grow (redrawn w d0) os))))
        have T2 := Lib.hid (fun w d0 os => Calls.regrown_of (grows (t2 (Sort.grow (redrawn w d0) os))))
        clear t1 t2 t3 t4
        have a0' := fun d0 os => cell_regrown a0 d0 os
        have a1' := fun d0 os => cell_regrown a1 d0 os
        have a2' := fun d0 os => cell_regrown a2 d0 os
        have a3' := fun d0 os => cell_regrown a3 d0 os
        have a4' := fun d0 os => cell_regrown a4 d0 os
        clear a0 a1 a2 a3 a4
        refine wp_region_quiet_below (by kernel_rfl) (by kernel_rfl) ?_
        repeat (
          with_reducible refine wpQuiet_step (fun K hK => ?_)
          go_simp
          first
            | (refine hK _ ?_; clear hK K)
            | (apply Exists.intro
               refine ⟨fun _ => ?_, hK _ ?_⟩
               (first
                 | (go_at_call 64; with_reducible exact T1.out _ _ _)
                 | (go_at_call 67; with_reducible exact T2.out _ _ _))
               clear hK K))
        with_reducible refine wpQuiet_nil ?_
        intro _ hw'
        obtain ⟨⟨dq, osq⟩, hw''⟩ := hw'
        subst hw''
        have hbl := (below_regrown W0 dq osq)
        clear a0' a1' a2' a3' a4'
        generalize Sort.grow (redrawn W0 dq) osq = w3 at *
        have hbq := Lib.hid (HW.out.trans (hbl.mono HW.out.size))
        clear HW hbl
        go_wp2_with fail
        go_ret
        exact ⟨by rw [HN.out]; rfl, hbq.out⟩
      cases hc3 : isIn u2 1 65535
      · have HN := Lib.hid (HNk.out (by rw [HO.out, ha, hb2, hc3]; rfl))
        rw [ha] at t1
        rw [hb2] at t2
        rw [hc3] at t3
        clear ha hb2 hc3 HO HZ hu0
        go_upto_region 5 with fail
        have HW := Lib.hid (HB.out.trans (((Below.refl wr.heap.size wr).alloc (Nat.le_refl _) (.cells #[.int .i64 u0, .int .i64 u1, .int .i64 u2, .int .i64 u3, .int .i64 u4] 72)).mono HB.out.size))
        have a0 : (wr.alloc (.cells #[.int .i64 u0, .int .i64 u1, .int .i64 u2, .int .i64 u3, .int .i64 u4] 72)).cell? ⟨wr.heap.size, 0, none⟩ = some (.int .i64 u0) := (newS 72 #[.int .i64 u0, .int .i64 u1, .int .i64 u2, .int .i64 u3, .int .i64 u4] wr).cell 0
        have a1 : (wr.alloc (.cells #[.int .i64 u0, .int .i64 u1, .int .i64 u2, .int .i64 u3, .int .i64 u4] 72)).cell? ⟨wr.heap.size, 1, none⟩ = some (.int .i64 u1) := (newS 72 #[.int .i64 u0, .int .i64 u1, .int .i64 u2, .int .i64 u3, .int .i64 u4] wr).cell 1
        have a2 : (wr.alloc (.cells #[.int .i64 u0, .int .i64 u1, .int .i64 u2, .int .i64 u3, .int .i64 u4] 72)).cell? ⟨wr.heap.size, 2, none⟩ = some (.int .i64 u2) := (newS 72 #[.int .i64 u0, .int .i64 u1, .int .i64 u2, .int .i64 u3, .int .i64 u4] wr).cell 2
        have a3 : (wr.alloc (.cells #[.int .i64 u0, .int .i64 u1, .int .i64 u2, .int .i64 u3, .int .i64 u4] 72)).cell? ⟨wr.heap.size, 3, none⟩ = some (.int .i64 u3) := (newS 72 #[.int .i64 u0, .int .i64 u1, .int .i64 u2, .int .i64 u3, .int .i64 u4] wr).cell 3
        have a4 : (wr.alloc (.cells #[.int .i64 u0, .int .i64 u1, .int .i64 u2, .int .i64 u3, .int .i64 u4] 72)).cell? ⟨wr.heap.size, 4, none⟩ = some (.int .i64 u4) := (newS 72 #[.int .i64 u0, .int .i64 u1, .int .i64 u2, .int .i64 u3, .int .i64 u4] wr).cell 4
        generalize hpb : wr.heap.size = pb at *
        generalize hW0 : wr.alloc (.cells #[.int .i64 u0, .int .i64 u1, .int .i64 u2, .int .i64 u3, .int .i64 u4] 72) = W0 at *
        clear hW0 hpb p0 p1 p2 p3 p4
        have T1 := Lib.hid (fun w d0 os => Calls.regrown_of (grows (t1 (Sort.grow (redrawn w d0) os))))
        have T2 := Lib.hid (fun w d0 os => Calls.regrown_of (grows (t2 (Sort.grow (redrawn w d0) os))))
        have T3 := Lib.hid (fun w d0 os => Calls.regrown_of (grows (t3 (Sort.grow (redrawn w d0) os))))
        clear t1 t2 t3 t4
        have a0' := fun d0 os => cell_regrown a0 d0 os
        have a1' := fun d0 os => cell_regrown a1 d0 os
        have a2' := fun d0 os => cell_regrown a2 d0 os
        have a3' := fun d0 os => cell_regrown a3 d0 os
        have a4' := fun d0 os => cell_regrown a4 d0 os
        clear a0 a1 a2 a3 a4
        refine wp_region_quiet_below (by kernel_rfl) (by kernel_rfl) ?_
        repeat (
          with_reducible refine wpQuiet_step (fun K hK => ?_)
          go_simp
          first
            | (refine hK _ ?_; clear hK K)
            | (apply Exists.intro
               refine ⟨fun _ => ?_, hK _ ?_⟩
               (first
                 | (go_at_call 64; with_reducible exact T1.out _ _ _)
                 | (go_at_call 67; with_reducible exact T2.out _ _ _)
                 | (go_at_call 65; with_reducible exact T3.out _ _ _))
               clear hK K))
        with_reducible refine wpQuiet_nil ?_
        intro _ hw'
        obtain ⟨⟨dq, osq⟩, hw''⟩ := hw'
        subst hw''
        have hbl := (below_regrown W0 dq osq)
        clear a0' a1' a2' a3' a4'
        generalize Sort.grow (redrawn W0 dq) osq = w3 at *
        have hbq := Lib.hid (HW.out.trans (hbl.mono HW.out.size))
        clear HW hbl
        go_wp2_with fail
        go_ret
        exact ⟨by rw [HN.out]; rfl, hbq.out⟩
      cases hd : pB u3 u4
      · have HN := Lib.hid (HNk.out (by rw [HO.out, ha, hb2, hc3, hd]; rfl))
        rw [ha] at t1
        rw [hb2] at t2
        rw [hc3] at t3
        rw [hd] at t4
        clear ha hb2 hc3 hd HO HZ hu0
        go_upto_region 5 with fail
        have HW := Lib.hid (HB.out.trans (((Below.refl wr.heap.size wr).alloc (Nat.le_refl _) (.cells #[.int .i64 u0, .int .i64 u1, .int .i64 u2, .int .i64 u3, .int .i64 u4] 72)).mono HB.out.size))
        have a0 : (wr.alloc (.cells #[.int .i64 u0, .int .i64 u1, .int .i64 u2, .int .i64 u3, .int .i64 u4] 72)).cell? ⟨wr.heap.size, 0, none⟩ = some (.int .i64 u0) := (newS 72 #[.int .i64 u0, .int .i64 u1, .int .i64 u2, .int .i64 u3, .int .i64 u4] wr).cell 0
        have a1 : (wr.alloc (.cells #[.int .i64 u0, .int .i64 u1, .int .i64 u2, .int .i64 u3, .int .i64 u4] 72)).cell? ⟨wr.heap.size, 1, none⟩ = some (.int .i64 u1) := (newS 72 #[.int .i64 u0, .int .i64 u1, .int .i64 u2, .int .i64 u3, .int .i64 u4] wr).cell 1
        have a2 : (wr.alloc (.cells #[.int .i64 u0, .int .i64 u1, .int .i64 u2, .int .i64 u3, .int .i64 u4] 72)).cell? ⟨wr.heap.size, 2, none⟩ = some (.int .i64 u2) := (newS 72 #[.int .i64 u0, .int .i64 u1, .int .i64 u2, .int .i64 u3, .int .i64 u4] wr).cell 2
        have a3 : (wr.alloc (.cells #[.int .i64 u0, .int .i64 u1, .int .i64 u2, .int .i64 u3, .int .i64 u4] 72)).cell? ⟨wr.heap.size, 3, none⟩ = some (.int .i64 u3) := (newS 72 #[.int .i64 u0, .int .i64 u1, .int .i64 u2, .int .i64 u3, .int .i64 u4] wr).cell 3
        have a4 : (wr.alloc (.cells #[.int .i64 u0, .int .i64 u1, .int .i64 u2, .int .i64 u3, .int .i64 u4] 72)).cell? ⟨wr.heap.size, 4, none⟩ = some (.int .i64 u4) := (newS 72 #[.int .i64 u0, .int .i64 u1, .int .i64 u2, .int .i64 u3, .int .i64 u4] wr).cell 4
        generalize hpb : wr.heap.size = pb at *
        generalize hW0 : wr.alloc (.cells #[.int .i64 u0, .int .i64 u1, .int .i64 u2, .int .i64 u3, .int .i64 u4] 72) = W0 at *
        clear hW0 hpb p0 p1 p2 p3 p4
        have T1 := Lib.hid (fun w d0 os => Calls.regrown_of (grows (t1 (Sort.grow (redrawn w d0) os))))
        have T2 := Lib.hid (fun w d0 os => Calls.regrown_of (grows (t2 (Sort.grow (redrawn w d0) os))))
        have T3 := Lib.hid (fun w d0 os => Calls.regrown_of (grows (t3 (Sort.grow (redrawn w d0) os))))
        have T4 := Lib.hid (fun w d0 os => Calls.regrown_of ((t4 (Sort.grow (redrawn w d0) os))))
        clear t1 t2 t3 t4
        have a0' := fun d0 os => cell_regrown a0 d0 os
        have a1' := fun d0 os => cell_regrown a1 d0 os
        have a2' := fun d0 os => cell_regrown a2 d0 os
        have a3' := fun d0 os => cell_regrown a3 d0 os
        have a4' := fun d0 os => cell_regrown a4 d0 os
        clear a0 a1 a2 a3 a4
        refine wp_region_quiet_below (by kernel_rfl) (by kernel_rfl) ?_
        repeat (
          with_reducible refine wpQuiet_step (fun K hK => ?_)
          go_simp
          first
            | (refine hK _ ?_; clear hK K)
            | (apply Exists.intro
               refine ⟨fun _ => ?_, hK _ ?_⟩
               (first
                 | (go_at_call 64; with_reducible exact T1.out _ _ _)
                 | (go_at_call 67; with_reducible exact T2.out _ _ _)
                 | (go_at_call 65; with_reducible exact T3.out _ _ _)
                 | (go_at_call 66; with_reducible exact T4.out _ _ _))
               clear hK K))
        with_reducible refine wpQuiet_nil ?_
        intro _ hw'
        obtain ⟨⟨dq, osq⟩, hw''⟩ := hw'
        subst hw''
        have hbl := (below_regrown W0 dq osq)
        clear a0' a1' a2' a3' a4'
        generalize Sort.grow (redrawn W0 dq) osq = w3 at *
        have hbq := Lib.hid (HW.out.trans (hbl.mono HW.out.size))
        clear HW hbl
        go_wp2_with fail
        go_ret
        exact ⟨by rw [HN.out]; rfl, hbq.out⟩
      rw [ha] at t1
      rw [hb2] at t2
      rw [hc3] at t3
      rw [hd] at t4
      rcases Nat.eq_zero_or_pos k with h0 | h0
      · have HT := Lib.hid (show okT zs (k + 1) = true by rw [HO.out, ha, hb2, hc3, hd, decide_eq_true h0]; rfl)
        subst h0
        rw [Nat.zero_mul, Nat.add_zero] at p0 p1 p2 p3 p4
        clear ha hb2 hc3 hd HO HNk HZ hu0
        go_upto_region 5 with fail
        have HW := Lib.hid (HB.out.trans (((Below.refl wr.heap.size wr).alloc (Nat.le_refl _) (.cells #[.int .i64 u0, .int .i64 u1, .int .i64 u2, .int .i64 u3, .int .i64 u4] 72)).mono HB.out.size))
        have a0 : (wr.alloc (.cells #[.int .i64 u0, .int .i64 u1, .int .i64 u2, .int .i64 u3, .int .i64 u4] 72)).cell? ⟨wr.heap.size, 0, none⟩ = some (.int .i64 u0) := (newS 72 #[.int .i64 u0, .int .i64 u1, .int .i64 u2, .int .i64 u3, .int .i64 u4] wr).cell 0
        have a1 : (wr.alloc (.cells #[.int .i64 u0, .int .i64 u1, .int .i64 u2, .int .i64 u3, .int .i64 u4] 72)).cell? ⟨wr.heap.size, 1, none⟩ = some (.int .i64 u1) := (newS 72 #[.int .i64 u0, .int .i64 u1, .int .i64 u2, .int .i64 u3, .int .i64 u4] wr).cell 1
        have a2 : (wr.alloc (.cells #[.int .i64 u0, .int .i64 u1, .int .i64 u2, .int .i64 u3, .int .i64 u4] 72)).cell? ⟨wr.heap.size, 2, none⟩ = some (.int .i64 u2) := (newS 72 #[.int .i64 u0, .int .i64 u1, .int .i64 u2, .int .i64 u3, .int .i64 u4] wr).cell 2
        have a3 : (wr.alloc (.cells #[.int .i64 u0, .int .i64 u1, .int .i64 u2, .int .i64 u3, .int .i64 u4] 72)).cell? ⟨wr.heap.size, 3, none⟩ = some (.int .i64 u3) := (newS 72 #[.int .i64 u0, .int .i64 u1, .int .i64 u2, .int .i64 u3, .int .i64 u4] wr).cell 3
        have a4 : (wr.alloc (.cells #[.int .i64 u0, .int .i64 u1, .int .i64 u2, .int .i64 u3, .int .i64 u4] 72)).cell? ⟨wr.heap.size, 4, none⟩ = some (.int .i64 u4) := (newS 72 #[.int .i64 u0, .int .i64 u1, .int .i64 u2, .int .i64 u3, .int .i64 u4] wr).cell 4
        generalize hpb : wr.heap.size = pb at *
        generalize hW0 : wr.alloc (.cells #[.int .i64 u0, .int .i64 u1, .int .i64 u2, .int .i64 u3, .int .i64 u4] 72) = W0 at *
        clear hW0 hpb p0 p1 p2 p3 p4
        have T1 := Lib.hid (fun w d0 os => Calls.regrown_of (grows (t1 (Sort.grow (redrawn w d0) os))))
        have T2 := Lib.hid (fun w d0 os => Calls.regrown_of (grows (t2 (Sort.grow (redrawn w d0) os))))
        have T3 := Lib.hid (fun w d0 os => Calls.regrown_of (grows (t3 (Sort.grow (redrawn w d0) os))))
        have T4 := Lib.hid (fun w d0 os => Calls.regrown_of ((t4 (Sort.grow (redrawn w d0) os))))
        clear t1 t2 t3 t4
        have a0' := fun d0 os => cell_regrown a0 d0 os
        have a1' := fun d0 os => cell_regrown a1 d0 os
        have a2' := fun d0 os => cell_regrown a2 d0 os
        have a3' := fun d0 os => cell_regrown a3 d0 os
        have a4' := fun d0 os => cell_regrown a4 d0 os
        clear a0 a1 a2 a3 a4
        refine wp_region_quiet_below (by kernel_rfl) (by kernel_rfl) ?_
        repeat (
          with_reducible refine wpQuiet_step (fun K hK => ?_)
          go_simp
          first
            | (refine hK _ ?_; clear hK K)
            | (apply Exists.intro
               refine ⟨fun _ => ?_, hK _ ?_⟩
               (first
                 | (go_at_call 64; with_reducible exact T1.out _ _ _)
                 | (go_at_call 67; with_reducible exact T2.out _ _ _)
                 | (go_at_call 65; with_reducible exact T3.out _ _ _)
                 | (go_at_call 66; with_reducible exact T4.out _ _ _))
               clear hK K))
        with_reducible refine wpQuiet_nil ?_
        intro _ hw'
        obtain ⟨⟨dq, osq⟩, hw''⟩ := hw'
        subst hw''
        have hbl := (below_regrown W0 dq osq)
        clear a0' a1' a2' a3' a4'
        generalize Sort.grow (redrawn W0 dq) osq = w3 at *
        have hbq := Lib.hid (HW.out.trans (hbl.mono HW.out.size))
        clear HW hbl
        go_wp2_with fail
        go_roundw
        case rel => exact ⟨0 + 1, by omega, by go_num, hbq.out, HT.out⟩
        case measure => simp [intOf]; omega
      obtain ⟨p, hp, -, q0⟩ := HZ.out h0
      rw [show k - 1 = p by omega] at HO
      have hpn : p < n := by omega
      have hpn2 : (p : Int) < (n : Int) := by omega
      have hp0 : (0 : Int) ≤ (p : Int) := Int.natCast_nonneg _
      have e1 : IntKind.i64.wrap ((k : Int) - 1) = (p : Int) := by rw [IntWalk.i64_in _ (by omega)]; omega
      have hk0 : decide (0 < k) = true := decide_eq_true h0
      clear HZ hp
      by_cases hs : fld 5 zs p 0 ≤ u0
      · have HT := Lib.hid (show okT zs (k + 1) = true by rw [HO.out, ha, hb2, hc3, hd, decide_eq_true hs]; simp)
        have hs2 : ¬ u0 < fld 5 zs p 0 := by omega
        clear ha hb2 hc3 hd HO HNk hu0 hs
        generalize fld 5 zs p 0 = z at *
        go_upto_region 5 with fail
        have HW := Lib.hid (HB.out.trans (((Below.refl wr.heap.size wr).alloc (Nat.le_refl _) (.cells #[.int .i64 u0, .int .i64 u1, .int .i64 u2, .int .i64 u3, .int .i64 u4] 72)).mono HB.out.size))
        have a0 : (wr.alloc (.cells #[.int .i64 u0, .int .i64 u1, .int .i64 u2, .int .i64 u3, .int .i64 u4] 72)).cell? ⟨wr.heap.size, 0, none⟩ = some (.int .i64 u0) := (newS 72 #[.int .i64 u0, .int .i64 u1, .int .i64 u2, .int .i64 u3, .int .i64 u4] wr).cell 0
        have a1 : (wr.alloc (.cells #[.int .i64 u0, .int .i64 u1, .int .i64 u2, .int .i64 u3, .int .i64 u4] 72)).cell? ⟨wr.heap.size, 1, none⟩ = some (.int .i64 u1) := (newS 72 #[.int .i64 u0, .int .i64 u1, .int .i64 u2, .int .i64 u3, .int .i64 u4] wr).cell 1
        have a2 : (wr.alloc (.cells #[.int .i64 u0, .int .i64 u1, .int .i64 u2, .int .i64 u3, .int .i64 u4] 72)).cell? ⟨wr.heap.size, 2, none⟩ = some (.int .i64 u2) := (newS 72 #[.int .i64 u0, .int .i64 u1, .int .i64 u2, .int .i64 u3, .int .i64 u4] wr).cell 2
        have a3 : (wr.alloc (.cells #[.int .i64 u0, .int .i64 u1, .int .i64 u2, .int .i64 u3, .int .i64 u4] 72)).cell? ⟨wr.heap.size, 3, none⟩ = some (.int .i64 u3) := (newS 72 #[.int .i64 u0, .int .i64 u1, .int .i64 u2, .int .i64 u3, .int .i64 u4] wr).cell 3
        have a4 : (wr.alloc (.cells #[.int .i64 u0, .int .i64 u1, .int .i64 u2, .int .i64 u3, .int .i64 u4] 72)).cell? ⟨wr.heap.size, 4, none⟩ = some (.int .i64 u4) := (newS 72 #[.int .i64 u0, .int .i64 u1, .int .i64 u2, .int .i64 u3, .int .i64 u4] wr).cell 4
        have q1 : (wr.alloc (.cells #[.int .i64 u0, .int .i64 u1, .int .i64 u2, .int .i64 u3, .int .i64 u4] 72)).cell? ⟨b1, o1 + p * 5, none⟩ = some (.int .i64 z) := ((Below.refl wr.heap.size wr).alloc (Nat.le_refl _) _).cell (p := ⟨b1, o1 + p * 5, none⟩) (World.block_lt_of_cell? _ _ q0) |>.trans q0
        clear q0
        generalize hpb : wr.heap.size = pb at *
        generalize hW0 : wr.alloc (.cells #[.int .i64 u0, .int .i64 u1, .int .i64 u2, .int .i64 u3, .int .i64 u4] 72) = W0 at *
        clear hW0 hpb p0 p1 p2 p3 p4
        have T1 := Lib.hid (fun w d0 os => Calls.regrown_of (grows (t1 (Sort.grow (redrawn w d0) os))))
        have T2 := Lib.hid (fun w d0 os => Calls.regrown_of (grows (t2 (Sort.grow (redrawn w d0) os))))
        have T3 := Lib.hid (fun w d0 os => Calls.regrown_of (grows (t3 (Sort.grow (redrawn w d0) os))))
        have T4 := Lib.hid (fun w d0 os => Calls.regrown_of ((t4 (Sort.grow (redrawn w d0) os))))
        clear t1 t2 t3 t4
        have a0' := fun d0 os => cell_regrown a0 d0 os
        have a1' := fun d0 os => cell_regrown a1 d0 os
        have a2' := fun d0 os => cell_regrown a2 d0 os
        have a3' := fun d0 os => cell_regrown a3 d0 os
        have a4' := fun d0 os => cell_regrown a4 d0 os
        have q1' := fun d0 os => cell_regrown q1 d0 os
        clear a0 a1 a2 a3 a4 q1
        refine wp_region_quiet_below (by kernel_rfl) (by kernel_rfl) ?_
        repeat (
          with_reducible refine wpQuiet_step (fun K hK => ?_)
          go_simp
          first
            | (refine hK _ ?_; clear hK K)
            | (apply Exists.intro
               refine ⟨fun _ => ?_, hK _ ?_⟩
               (first
                 | (go_at_call 64; with_reducible exact T1.out _ _ _)
                 | (go_at_call 67; with_reducible exact T2.out _ _ _)
                 | (go_at_call 65; with_reducible exact T3.out _ _ _)
                 | (go_at_call 66; with_reducible exact T4.out _ _ _))
               clear hK K))
        with_reducible refine wpQuiet_nil ?_
        intro _ hw'
        obtain ⟨⟨dq, osq⟩, hw''⟩ := hw'
        subst hw''
        have hbl := (below_regrown W0 dq osq)
        clear a0' a1' a2' a3' a4' q1'
        generalize Sort.grow (redrawn W0 dq) osq = w3 at *
        have hbq := Lib.hid (HW.out.trans (hbl.mono HW.out.size))
        clear HW hbl
        go_wp2_with fail
        go_roundw
        case rel => exact ⟨k + 1, by omega, by go_num, hbq.out, HT.out⟩
        case measure => simp [intOf]; omega
      · have HN := Lib.hid (HNk.out (by rw [HO.out, ha, hb2, hc3, hd, decide_eq_false hs, decide_eq_false (show ¬ k = 0 by omega)]; rfl))
        have hs2 : u0 < fld 5 zs p 0 := by omega
        clear ha hb2 hc3 hd HO HNk hu0 hs
        generalize fld 5 zs p 0 = z at *
        go_upto_region 5 with fail
        have HW := Lib.hid (HB.out.trans (((Below.refl wr.heap.size wr).alloc (Nat.le_refl _) (.cells #[.int .i64 u0, .int .i64 u1, .int .i64 u2, .int .i64 u3, .int .i64 u4] 72)).mono HB.out.size))
        have a0 : (wr.alloc (.cells #[.int .i64 u0, .int .i64 u1, .int .i64 u2, .int .i64 u3, .int .i64 u4] 72)).cell? ⟨wr.heap.size, 0, none⟩ = some (.int .i64 u0) := (newS 72 #[.int .i64 u0, .int .i64 u1, .int .i64 u2, .int .i64 u3, .int .i64 u4] wr).cell 0
        have a1 : (wr.alloc (.cells #[.int .i64 u0, .int .i64 u1, .int .i64 u2, .int .i64 u3, .int .i64 u4] 72)).cell? ⟨wr.heap.size, 1, none⟩ = some (.int .i64 u1) := (newS 72 #[.int .i64 u0, .int .i64 u1, .int .i64 u2, .int .i64 u3, .int .i64 u4] wr).cell 1
        have a2 : (wr.alloc (.cells #[.int .i64 u0, .int .i64 u1, .int .i64 u2, .int .i64 u3, .int .i64 u4] 72)).cell? ⟨wr.heap.size, 2, none⟩ = some (.int .i64 u2) := (newS 72 #[.int .i64 u0, .int .i64 u1, .int .i64 u2, .int .i64 u3, .int .i64 u4] wr).cell 2
        have a3 : (wr.alloc (.cells #[.int .i64 u0, .int .i64 u1, .int .i64 u2, .int .i64 u3, .int .i64 u4] 72)).cell? ⟨wr.heap.size, 3, none⟩ = some (.int .i64 u3) := (newS 72 #[.int .i64 u0, .int .i64 u1, .int .i64 u2, .int .i64 u3, .int .i64 u4] wr).cell 3
        have a4 : (wr.alloc (.cells #[.int .i64 u0, .int .i64 u1, .int .i64 u2, .int .i64 u3, .int .i64 u4] 72)).cell? ⟨wr.heap.size, 4, none⟩ = some (.int .i64 u4) := (newS 72 #[.int .i64 u0, .int .i64 u1, .int .i64 u2, .int .i64 u3, .int .i64 u4] wr).cell 4
        have q1 : (wr.alloc (.cells #[.int .i64 u0, .int .i64 u1, .int .i64 u2, .int .i64 u3, .int .i64 u4] 72)).cell? ⟨b1, o1 + p * 5, none⟩ = some (.int .i64 z) := ((Below.refl wr.heap.size wr).alloc (Nat.le_refl _) _).cell (p := ⟨b1, o1 + p * 5, none⟩) (World.block_lt_of_cell? _ _ q0) |>.trans q0
        clear q0
        generalize hpb : wr.heap.size = pb at *
        generalize hW0 : wr.alloc (.cells #[.int .i64 u0, .int .i64 u1, .int .i64 u2, .int .i64 u3, .int .i64 u4] 72) = W0 at *
        clear hW0 hpb p0 p1 p2 p3 p4
        have T1 := Lib.hid (fun w d0 os => Calls.regrown_of (grows (t1 (Sort.grow (redrawn w d0) os))))
        have T2 := Lib.hid (fun w d0 os => Calls.regrown_of (grows (t2 (Sort.grow (redrawn w d0) os))))
        have T3 := Lib.hid (fun w d0 os => Calls.regrown_of (grows (t3 (Sort.grow (redrawn w d0) os))))
        have T4 := Lib.hid (fun w d0 os => Calls.regrown_of ((t4 (Sort.grow (redrawn w d0) os))))
        clear t1 t2 t3 t4
        have a0' := fun d0 os => cell_regrown a0 d0 os
        have a1' := fun d0 os => cell_regrown a1 d0 os
        have a2' := fun d0 os => cell_regrown a2 d0 os
        have a3' := fun d0 os => cell_regrown a3 d0 os
        have a4' := fun d0 os => cell_regrown a4 d0 os
        have q1' := fun d0 os => cell_regrown q1 d0 os
        clear a0 a1 a2 a3 a4 q1
        refine wp_region_quiet_below (by kernel_rfl) (by kernel_rfl) ?_
        repeat (
          with_reducible refine wpQuiet_step (fun K hK => ?_)
          go_simp
          first
            | (refine hK _ ?_; clear hK K)
            | (apply Exists.intro
               refine ⟨fun _ => ?_, hK _ ?_⟩
               (first
                 | (go_at_call 64; with_reducible exact T1.out _ _ _)
                 | (go_at_call 67; with_reducible exact T2.out _ _ _)
                 | (go_at_call 65; with_reducible exact T3.out _ _ _)
                 | (go_at_call 66; with_reducible exact T4.out _ _ _))
               clear hK K))
        with_reducible refine wpQuiet_nil ?_
        intro _ hw'
        obtain ⟨⟨dq, osq⟩, hw''⟩ := hw'
        subst hw''
        have hbl := (below_regrown W0 dq osq)
        clear a0' a1' a2' a3' a4' q1'
        generalize Sort.grow (redrawn W0 dq) osq = w3 at *
        have hbq := Lib.hid (HW.out.trans (hbl.mono HW.out.size))
        clear HW hbl
        go_wp2_with fail
        go_ret
        exact ⟨by rw [HN.out]; rfl, hbq.out⟩
    · obtain rfl : k = n := by omega
      have HE := Lib.hid (HEND.out hck)
      clear hck HNO HEND
      go_wp2_with fail
      go_ret
      exact ⟨by rw [HE.out]; rfl, HB.out⟩

theorem asked13 (zs : List Int) (ww r : Int) (A : Option Addr) (n c : Nat) (w : World) (hn : n ≤ 1048577) (h1 : RdZ 5 w w.heap.size A n zs) :
    Calls Tryd.prog 54 #[.slice A n c, .int .i64 ww, .int .i64 r] w fun e w' => e = .returned (.bool (asB zs n ww r)) ∧ Below w.heap.size w w' := by
  have H := Lib.hid (good13 zs A n c w hn h1)
  have T1 := Lib.hid (fun w => l1In ww 0 60 w)
  have T2 := Lib.hid (fun w => l1In r 0 1000 w)
  unfold asB
  clear h1
  generalize svB zs n = p at *
  generalize isIn ww 0 60 = q at *
  generalize isIn r 0 1000 = s at *
  cases p
  · go_enter Tryd.func54, Tryd.ntmps54
    go_wp2_with fail
    refine H.out.mono ?_
    rintro e w2 ⟨rfl, hb⟩
    go_wp2_with fail
    go_ret
    exact ⟨rfl, hb⟩
  · cases q
    · go_enter Tryd.func54, Tryd.ntmps54
      go_wp2_with fail
      refine H.out.mono ?_
      rintro e w2 ⟨rfl, hb⟩
      go_wp2_with fail
      refine (T1.out _).mono ?_
      rintro e w3 ⟨rfl, rfl⟩
      go_wp2_with fail
      go_ret
      exact ⟨rfl, hb⟩
    · go_enter Tryd.func54, Tryd.ntmps54
      go_wp2_with fail
      refine H.out.mono ?_
      rintro e w2 ⟨rfl, hb⟩
      go_wp2_with fail
      refine (T1.out _).mono ?_
      rintro e w3 ⟨rfl, rfl⟩
      go_wp2_with fail
      refine (T2.out _).mono ?_
      rintro e w3 ⟨rfl, rfl⟩
      go_wp2_with fail
      go_ret
      exact ⟨rfl, hb⟩

set_option maxRecDepth 100000 in
theorem twin13 (ww r s t a x y s' t' a' x' y' : Int) (w : World) (hs : (0 ≤ s ∧ s ≤ 86400) ∧ 0 ≤ s' ∧ s' ≤ 86400) (hx : (0 ≤ x ∧ x ≤ 9899) ∧ 0 ≤ x' ∧ x' ≤ 9899) (hy : (0 ≤ y ∧ y ≤ 9899) ∧ 0 ≤ y' ∧ y' ≤ 9899) :
    Calls Tryd.prog 84 #[.agg #[.int .i64 s, .int .i64 t, .int .i64 a, .int .i64 x, .int .i64 y], .agg #[.int .i64 s', .int .i64 t', .int .i64 a', .int .i64 x', .int .i64 y'], .int .i64 ww, .int .i64 r] w fun e w' => e = .returned (.bool (tw ww r s a x y s' a' x' y')) ∧ Below w.heap.size w w' := by
  have E0 := Lib.hid (show Below w.heap.size w ((w.alloc (.cells #[.int .i64 s, .int .i64 t, .int .i64 a, .int .i64 x, .int .i64 y] 72)).alloc (.cells #[.int .i64 s', .int .i64 t', .int .i64 a', .int .i64 x', .int .i64 y'] 72)) from ((Below.refl _ _).alloc (Nat.le_refl _) _).alloc (by rw [World.size_alloc]; omega) _)
  have G1 := Lib.hid (fun w => size13 (s - s') w (by omega) (by omega))
  have G2 := Lib.hid (fun w => size13 (x - x') w (by omega) (by omega))
  have G3 := Lib.hid (fun w => size13 (y - y') w (by omega) (by omega))
  have e1 : IntKind.i64.wrap (s - s') = s - s' := IntWalk.i64_in _ (by omega)
  have e2 : IntKind.i64.wrap (x - x') = x - x' := IntWalk.i64_in _ (by omega)
  have e3 : IntKind.i64.wrap (y - y') = y - y' := IntWalk.i64_in _ (by omega)
  unfold tw
  generalize ((s - s').natAbs : Int) = v1 at *
  generalize ((x - x').natAbs : Int) = v2 at *
  generalize ((y - y').natAbs : Int) = v3 at *
  clear hs hx hy
  by_cases h1 : a = a'
  · have g1 : (a == a') = true := beq_iff_eq.mpr h1
    rw [decide_eq_true h1]
    clear h1
    by_cases h2 : v1 ≤ ww
    · rw [decide_eq_true h2]
      by_cases h3 : v2 ≤ r
      · rw [decide_eq_true h3]
        go_enter Tryd.func84, Tryd.ntmps84
        go_wp2_with fail
        refine (G1.out _).mono ?_
        rintro e w1 ⟨rfl, rfl⟩
        go_wp2_with fail
        refine (G2.out _).mono ?_
        rintro e w2 ⟨rfl, rfl⟩
        go_wp2_with fail
        refine (G3.out _).mono ?_
        rintro e w3 ⟨rfl, rfl⟩
        go_wp2_with fail
        go_ret
        exact ⟨rfl, E0.out⟩
      · rw [decide_eq_false h3]
        go_enter Tryd.func84, Tryd.ntmps84
        go_wp2_with fail
        refine (G1.out _).mono ?_
        rintro e w1 ⟨rfl, rfl⟩
        go_wp2_with fail
        refine (G2.out _).mono ?_
        rintro e w2 ⟨rfl, rfl⟩
        go_wp2_with fail
        go_ret
        exact ⟨rfl, E0.out⟩
    · rw [decide_eq_false h2]
      go_enter Tryd.func84, Tryd.ntmps84
      go_wp2_with fail
      refine (G1.out _).mono ?_
      rintro e w1 ⟨rfl, rfl⟩
      go_wp2_with fail
      go_ret
      exact ⟨rfl, E0.out⟩
  · have g1 : (a == a') = false := beq_eq_false_iff_ne.mpr h1
    rw [decide_eq_false h1]
    clear h1
    go_enter Tryd.func84, Tryd.ntmps84
    go_wp2_with fail
    go_ret
    exact ⟨rfl, E0.out⟩

end Go.Proofs.YtdjcbfeilkepmaaDoor.plts
