/- impl's courses: courseOf and its closure, leavesBy, LeavesAt, NearestMinute. -/
import Derived.Test.YtinkkdgjpcnklaaMotA
import Derived.Test.YtinkkdgjpcnklaaMotS
import Derived.StillTail
import Derived.StillTailTactics
import Derived.Lib.QuietBelow
namespace Go.Proofs.Ytinkkdgjpcnklaa.motc
open Go.RowKit Go.Proofs.Ytinkkdgjpcnklaa.in_ Go.Proofs.Ytinkkdgjpcnklaa.ats Go.Proofs.Ytinkkdgjpcnklaa.pos Go.Proofs.Ytinkkdgjpcnklaa.vel Go.Proofs.Ytinkkdgjpcnklaa.hgt Go.Proofs.Ytinkkdgjpcnklaa.mot Go.Proofs.Ytinkkdgjpcnklaa.mota Go.Proofs.Ytinkkdgjpcnklaa.mots

theorem course_in {a r : Int} {k : Nat} (ha : 0 ≤ a ∧ a ≤ 9899) (hr : -200 ≤ r ∧ r ≤ 200) (hk : k ≤ 60) : (-1000000000 ≤ a * 1 ∧ a * 1 ≤ 1000000000) ∧ -1000000000 ≤ r * (k : Int) ∧ r * (k : Int) ≤ 1000000000 := by
  have := far ha hr hk
  omega
theorem at_one (a r n : Int) : at_ a r n 1 = a + r * n := by unfold at_; rw [Int.mul_one]
/-- What a course reads of a motion. -/
def Mo (x y u v : Int) (g : Nat) (w : World) : Prop := w.cell? ⟨g, 0, none⟩ = some (.int .i64 x) ∧ w.cell? ⟨g, 1, none⟩ = some (.int .i64 y) ∧ w.cell? ⟨g, 2, none⟩ = some (.int .i64 u) ∧ w.cell? ⟨g, 3, none⟩ = some (.int .i64 v)
theorem Mo.lt {x y u v : Int} {g : Nat} {w : World} (h : Mo x y u v g w) : g < w.heap.size := World.block_lt_of_cell? _ _ h.1
theorem Mo.next {x y u v : Int} {g : Nat} {w w' : World} (h : Mo x y u v g w) (hb : Below w.heap.size w w') : Mo x y u v g w' :=
  ⟨(hb.cell (p := ⟨g, 0, none⟩) h.lt).trans h.1, (hb.cell (p := ⟨g, 1, none⟩) h.lt).trans h.2.1, (hb.cell (p := ⟨g, 2, none⟩) h.lt).trans h.2.2.1, (hb.cell (p := ⟨g, 3, none⟩) h.lt).trans h.2.2.2⟩
theorem Mo.below {x y u v : Int} {g B : Nat} {w w' : World} (h : Mo x y u v g w) (hb : Below B w w') (hg : g < B) : Mo x y u v g w' :=
  ⟨(hb.cell (p := ⟨g, 0, none⟩) hg).trans h.1, (hb.cell (p := ⟨g, 1, none⟩) hg).trans h.2.1, (hb.cell (p := ⟨g, 2, none⟩) hg).trans h.2.2.1, (hb.cell (p := ⟨g, 3, none⟩) hg).trans h.2.2.2⟩
theorem courseOf (x y u v h c : Int) (w : World) :
    Calls Try.prog 61 #[.agg #[.int .i64 x, .int .i64 y, .int .i64 u, .int .i64 v, .int .i64 h, .int .i64 c]] w fun e w' => ∃ g : Nat, e = .returned (.func (.func 82) #[] #[.pointer (some ⟨g, 0, none⟩)]) ∧ AtS 28 #[.int .i64 x, .int .i64 y, .int .i64 u, .int .i64 v, .int .i64 h, .int .i64 c] w w' g := by
  have S0 := Lib.hid (newS 28 #[.int .i64 x, .int .i64 y, .int .i64 u, .int .i64 v, .int .i64 h, .int .i64 c] w)
  go_enter Try.func61, Try.ntmps61
  go_wp2_with fail
  go_ret
  exact ⟨w.heap.size, rfl, S0.out⟩
theorem mo_of {x y u v h c : Int} {w W : World} {g : Nat} (s : AtS 28 #[.int .i64 x, .int .i64 y, .int .i64 u, .int .i64 v, .int .i64 h, .int .i64 c] w W g) : Mo x y u v g W := ⟨s.cell 0, s.cell 1, s.cell 2, s.cell 3⟩

set_option maxRecDepth 100000 in
set_option maxHeartbeats 2000000 in
theorem course1 (x y u v : Int) (k g : Nat) (w : World) (hm : Mo x y u v g w) (hx : 0 ≤ x ∧ x ≤ 9899) (hy : 0 ≤ y ∧ y ≤ 9899) (hu : -200 ≤ u ∧ u ≤ 200) (hv : -200 ≤ v ∧ v ≤ 200) (hk : k ≤ 60) :
    Calls Try.prog 82 #[.int .i64 (k : Int), .pointer (some ⟨g, 0, none⟩)] w fun e w' => e = .returned (.agg #[.int .i64 (x + u * (k : Int)), .int .i64 (y + v * (k : Int))]) ∧ Below w.heap.size w w' := by
  have R0 := Lib.hid (newS 25 #[.int .i64 0, .int .i64 0] w)
  have HM := Lib.hid hm
  have HA := Lib.hid (fun w => changedAt (k : Int) 1 w)
  have HX := Lib.hid (fun (gd gn : Nat) (W : World) hd hn => changed1 x u (k : Int) 1 gd gn W hd hn (course_in hx hu hk).1 (course_in hx hu hk).2)
  have HY := Lib.hid (fun (gd gn : Nat) (W : World) hd hn => changed1 y v (k : Int) 1 gd gn W hd hn (course_in hy hv hk).1 (course_in hy hv hk).2)
  rw [at_one] at HX HY
  generalize x + u * (k : Int) = X at *
  generalize y + v * (k : Int) = Y at *
  clear hm hx hy hu hv
  go_enter Try.func82, Try.ntmps82
  go_wp2_with fail
  refine (HA.out _).mono ?_
  rintro e W1 ⟨gd, gn, rfl, cd, cn⟩
  have R1 := Lib.hid (R0.out.old cd.1)
  have M1 := Lib.hid ((HM.out.next R0.out.1).next cd.1)
  clear R0 HM HA
  go_wp2_with fail
  refine wp_region_still_tail 17 (by kernel_rfl) (by kernel_rfl) ?_
  simp only [List.take_succ_cons, List.take_zero, List.drop_succ_cons, List.drop_zero]
  change wpStill _ _ W1.drew _ _ _
  change wpStill _ _ W1.drew (fun a' => wpList _ _ _ _ a' W1.drew) _ _
  have R2 := Lib.hid R1.out.drew
  have M2 := Lib.hid (M1.out.next (Below.refl W1.heap.size W1).drew)
  have cd2 := cd.drew.cell 0
  have cn2 := cn.drew.cell 0
  have CX := Lib.hid ((HX.out gd gn W1.drew cd2 cn2).mono fun e w' h => (⟨h.1, h.2.symm⟩ : e = .returned (.int .i64 X) ∧ w' = W1.drew))
  have CY := Lib.hid ((HY.out gd gn W1.drew cd2 cn2).mono fun e w' h => (⟨h.1, h.2.symm⟩ : e = .returned (.int .i64 Y) ∧ w' = W1.drew))
  clear HX HY cd cn R1 M1 cd2 cn2
  generalize W1.drew = W2 at *
  have m0 : W2.cell? ⟨g, 0, none⟩ = some (.int .i64 x) := M2.out.1
  have m1 : W2.cell? ⟨g, 1, none⟩ = some (.int .i64 y) := M2.out.2.1
  have m2 : W2.cell? ⟨g, 2, none⟩ = some (.int .i64 u) := M2.out.2.2.1
  have m3 : W2.cell? ⟨g, 3, none⟩ = some (.int .i64 v) := M2.out.2.2.2
  have r0 : W2.cell? ⟨w.heap.size, 0, none⟩ = some (.int .i64 0) := R2.out.cell 0
  have r1 : W2.cell? ⟨w.heap.size, 1, none⟩ = some (.int .i64 0) := R2.out.cell 1
  have f0 := R2.out.frozen 0
  have f1 := R2.out.frozen 1
  repeat still_step
  still_call CX.out
  repeat still_step
  still_call CY.out
  repeat still_step
  refine wpStill_nil ?_
  go_wp2_with fail
  have HE := (R2.out.set 0 (.int .i64 X)).set 1 (.int .i64 Y)
  have hl := HE.load Try.underlying25 rfl (by kernel_rfl)
  refine bodyPost_ret (v := .agg #[.int .i64 X, .int .i64 Y]) ?_ rfl ⟨rfl, HE.1⟩
  rw [results_cell1 rfl]
  simp [asAddr, Result.andThen, hl]

def lbB (f : Nat → Bool) (n : Nat) : Bool := decide (led f n < n)
def lbV (f : Nat → Bool) (n : Nat) : Nat := if led f n < n then led f n else 0
theorem lb_stop {f : Nat → Bool} {k n : Nat} (hk : k < n) (hb : ∀ i, i < k → f i = true) (hx : f k = false) : lbB f n = true ∧ lbV f n = k := by
  have e := led_stop hb hx n hk
  unfold lbB lbV
  rw [e, decide_eq_true hk, if_pos hk]
  exact ⟨rfl, rfl⟩
theorem lb_end {f : Nat → Bool} {n : Nat} (hb : ∀ i, i < n → f i = true) : lbB f n = false ∧ lbV f n = 0 := by
  unfold lbB lbV
  rw [led_all n hb, decide_eq_false (by omega), if_neg (by omega)]
  exact ⟨rfl, rfl⟩
set_option maxRecDepth 100000 in
set_option maxHeartbeats 2000000 in
theorem leavesBy (x y u v : Int) (L g : Nat) (w : World) (hm : Mo x y u v g w) (hx : 0 ≤ x ∧ x ≤ 9899) (hy : 0 ≤ y ∧ y ≤ 9899) (hu : -200 ≤ u ∧ u ≤ 200) (hv : -200 ≤ v ∧ v ≤ 200) (hL : L ≤ 60) :
    Calls Try.prog 67 #[(.func (.func 82) #[] #[.pointer (some ⟨g, 0, none⟩)]), .int .i64 (L : Int)] w fun e w' => e = .returned (.tuple #[.int .i64 (lbV (okT x y u v) (L + 1) : Int), .bool (lbB (okT x y u v) (L + 1))]) ∧ Below w.heap.size w w' := by
  have HM := Lib.hid hm
  have HC := Lib.hid (fun (k : Nat) (W : World) (hk : k ≤ 60) (hb : Below w.heap.size w W) => course1 x y u v k g W (hm.next hb) hx hy hu hv hk)
  have hL2 : (L : Int) ≤ 60 := by omega
  have e1 : IntKind.i64.wrap ((L : Int) + 1) = (L : Int) + 1 := IntWalk.i64_in _ (by omega)
  clear hm hx hy hu hv
  go_enter Try.func67, Try.ntmps67
  go_wp2_with fail
  go_loopw [9] (fun i wr => ∃ k : Nat, k ≤ L + 1 ∧ i = .int .i64 k ∧ Below w.heap.size w wr ∧ ∀ i, i < k → okT x y u v i = true) (fun i _ => L + 1 - (intOf i).toNat)
  case atStart => exact ⟨0, by omega, rfl, Below.refl _ _, fun i hi => absurd hi (Nat.not_lt_zero i)⟩
  case round =>
    obtain ⟨k, hk, rfl, hb, hall⟩ := hrel
    have HB := Lib.hid hb
    have HO := Lib.hid hall
    clear hb hall
    by_cases hlt : k < L + 1
    · have hlt2 : (k : Int) < (L : Int) + 1 := by omega
      have HW := Lib.hid (fun W => show Calls Try.prog 60 #[.agg #[.int .i64 (x + u * (k : Int)), .int .i64 (y + v * (k : Int))]] W (fun e w' => e = .returned (.bool (okT x y u v k)) ∧ Below W.heap.size W w') from posj.isValidPlace _ _ W)
      have HK := Lib.hid (HC.out k wr (by omega) HB.out)
      have HS := Lib.hid (fun h => lb_stop (f := okT x y u v) (k := k) hlt HO.out h)
      generalize x + u * (k : Int) = X at *
      generalize y + v * (k : Int) = Y at *
      generalize hbk : okT x y u v k = b at *
      go_wp2_with fail
      refine HK.out.mono ?_
      rintro e W7 ⟨rfl, hb7⟩
      have HB7 := Lib.hid (HB.out.trans (hb7.mono HB.out.size))
      clear hb7
      go_wp2_with fail
      refine (HW.out W7).mono ?_
      rintro e W8 ⟨rfl, hb8⟩
      have HB8 := Lib.hid (HB7.out.trans (hb8.mono HB7.out.size))
      clear hb8
      cases b
      · have HE := Lib.hid (HS.out rfl)
        go_wp2_with fail
        go_ret2
        exact ⟨by rw [HE.out.1, HE.out.2]; rfl, HB8.out⟩
      · have HN := Lib.hid (show ∀ i, i < k + 1 → okT x y u v i = true from fun i hi => by
          by_cases e : i = k
          · rw [e]; exact hbk
          · exact HO.out i (by omega))
        clear HS hbk
        go_wp2_with fail
        go_roundw
        case rel => exact ⟨k + 1, by omega, by go_num, HB8.out, HN.out⟩
        case measure => simp [intOf]; omega
    · obtain rfl : k = L + 1 := by omega
      have HE := Lib.hid (lb_end HO.out)
      go_wp2_with fail
      go_ret2
      exact ⟨by rw [HE.out.1, HE.out.2]; rfl, HB.out⟩

theorem lv_is {x y u v h c : Int} (hm : moB x y u v h c = true) : lvB x y u v h c = lbB (okT x y u v) 61 ∧ lvV x y u v h c = lbV (okT x y u v) 61 := by
  have e : lvB x y u v h c = lbB (okT x y u v) 61 := by unfold lvB lbB; rw [hm, Bool.true_and]
  refine ⟨e, ?_⟩
  unfold lvV
  rw [e]
  unfold lbB lbV
  by_cases hl : led (okT x y u v) 61 < 61
  · rw [decide_eq_true hl, if_pos hl]; exact if_pos rfl
  · rw [decide_eq_false hl, if_neg hl]; exact if_neg (by decide)
set_option maxRecDepth 100000 in
set_option maxHeartbeats 2000000 in
theorem leavesAt (x y u v h c : Int) (w : World) :
    Calls Try.prog 34 #[.agg #[.int .i64 x, .int .i64 y, .int .i64 u, .int .i64 v, .int .i64 h, .int .i64 c]] w fun e w' => e = .returned (.tuple #[.int .i64 (lvV x y u v h c : Int), .bool (lvB x y u v h c)]) ∧ Below w.heap.size w w' := by
  have S0 := Lib.hid (newS 28 #[.int .i64 x, .int .i64 y, .int .i64 u, .int .i64 v, .int .i64 h, .int .i64 c] w)
  have T0 := Lib.hid (fun W => mota.isValidMotion x y u v h c W)
  cases hq0 : moB x y u v h c
  · have HE := Lib.hid (show lvB x y u v h c = false by unfold lvB; rw [hq0]; rfl)
    rw [hq0] at T0
    clear hq0
    go_enter Try.func34, Try.ntmps34
    go_wp2_with fail
    generalize w.alloc (.cells #[.int .i64 x, .int .i64 y, .int .i64 u, .int .i64 v, .int .i64 h, .int .i64 c] 28) = W0 at *
    have AN0 := Lib.hid (Below.refl W0.heap.size W0)
    refine (T0.out W0).mono ?_
    rintro e V1 ⟨rfl, hb1⟩
    have AN1 := Lib.hid (AN0.out.trans (hb1.mono AN0.out.size))
    clear hb1 AN0
    have BX := Lib.hid (S0.out.1.trans (AN1.out.mono S0.out.1.size))
    go_wp2_with fail
    go_ret2
    exact ⟨by rw [lv_no HE.out, HE.out]; rfl, BX.out⟩
  rw [hq0] at T0
  have HE := Lib.hid (lv_is hq0)
  obtain ⟨hx, hy, hu, hv, -, -⟩ := mo_in hq0
  have HL := Lib.hid (fun (g : Nat) (W : World) (hm : Mo x y u v g W) => leavesBy x y u v 60 g W hm hx hy hu hv (by omega))
  have HC := Lib.hid (fun W => courseOf x y u v h c W)
  clear hq0 hx hy hu hv
  go_enter Try.func34, Try.ntmps34
  go_wp2_with fail
  generalize w.alloc (.cells #[.int .i64 x, .int .i64 y, .int .i64 u, .int .i64 v, .int .i64 h, .int .i64 c] 28) = W0 at *
  have AN0 := Lib.hid (Below.refl W0.heap.size W0)
  refine (T0.out W0).mono ?_
  rintro e V1 ⟨rfl, hb1⟩
  have AN1 := Lib.hid (AN0.out.trans (hb1.mono AN0.out.size))
  clear hb1 AN0
  have m0_ : V1.cell? ⟨w.heap.size, 0, none⟩ = some (.int .i64 x) := (S0.out.old AN1.out).cell 0
  have m1_ : V1.cell? ⟨w.heap.size, 1, none⟩ = some (.int .i64 y) := (S0.out.old AN1.out).cell 1
  have m2_ : V1.cell? ⟨w.heap.size, 2, none⟩ = some (.int .i64 u) := (S0.out.old AN1.out).cell 2
  have m3_ : V1.cell? ⟨w.heap.size, 3, none⟩ = some (.int .i64 v) := (S0.out.old AN1.out).cell 3
  have m4_ : V1.cell? ⟨w.heap.size, 4, none⟩ = some (.int .i64 h) := (S0.out.old AN1.out).cell 4
  have m5_ : V1.cell? ⟨w.heap.size, 5, none⟩ = some (.int .i64 c) := (S0.out.old AN1.out).cell 5
  go_wp2_with fail
  clear m0_ m1_ m2_ m3_ m4_ m5_
  refine (HC.out V1).mono ?_
  rintro e V8 ⟨g, rfl, sg⟩
  have AN8 := Lib.hid (AN1.out.trans (sg.1.mono AN1.out.size))
  have HM := Lib.hid (mo_of sg)
  clear sg
  go_wp2_with fail
  refine (HL.out g V8 HM.out).mono ?_
  rintro e V9 ⟨rfl, hb9⟩
  have BX := Lib.hid (S0.out.1.trans ((AN8.out.trans (hb9.mono AN8.out.size)).mono S0.out.1.size))
  clear hb9
  go_wp2_with fail
  go_ret2
  exact ⟨by rw [HE.out.1, HE.out.2]; rfl, BX.out⟩

set_option maxRecDepth 100000 in
set_option maxHeartbeats 4000000 in
theorem nearestMinute (x y u v h c p q : Int) (w : World)  :
    Calls Try.prog 24 #[.agg #[.int .i64 x, .int .i64 y, .int .i64 u, .int .i64 v, .int .i64 h, .int .i64 c], .agg #[.int .i64 p, .int .i64 q]] w fun e w' => e = .returned (.tuple #[.int .i64 (nmV x y u v h c p q : Int), .bool (nmB x y u v h c p q)]) ∧ Below w.heap.size w w' := by
  have S0 := Lib.hid ((newS 28 #[.int .i64 x, .int .i64 y, .int .i64 u, .int .i64 v, .int .i64 h, .int .i64 c] w).alloc (.cells #[.int .i64 p, .int .i64 q] 25))
  have S1 := Lib.hid ((newS 28 #[.int .i64 x, .int .i64 y, .int .i64 u, .int .i64 v, .int .i64 h, .int .i64 c] w).next 25 #[.int .i64 p, .int .i64 q])
  rw [World.size_alloc] at S1
  have T0 := Lib.hid (fun W => mota.isValidMotion x y u v h c W)
  have T1 := Lib.hid (fun W => posj.isValidPlace p q W)
  cases hq0 : moB x y u v h c
  · have HE := Lib.hid (show nmB x y u v h c p q = false by unfold nmB; rw [hq0]; rfl)
    rw [hq0] at T0
    clear hq0
    go_enter Try.func24, Try.ntmps24
    go_wp2_with fail
    generalize (w.alloc (.cells #[.int .i64 x, .int .i64 y, .int .i64 u, .int .i64 v, .int .i64 h, .int .i64 c] 28)).alloc (.cells #[.int .i64 p, .int .i64 q] 25) = W0 at *
    have AN0 := Lib.hid (Below.refl W0.heap.size W0)
    refine (T0.out W0).mono ?_
    rintro e V1 ⟨rfl, hb1⟩
    have AN1 := Lib.hid (AN0.out.trans (hb1.mono AN0.out.size))
    clear hb1 AN0
    have BX := Lib.hid (S0.out.1.trans (AN1.out.mono S0.out.1.size))
    go_wp2_with fail
    go_ret2
    exact ⟨by rw [nm_no HE.out, HE.out]; rfl, BX.out⟩
  rw [hq0] at T0
  cases hq1 : pB p q
  · have HE := Lib.hid (show nmB x y u v h c p q = false by unfold nmB; rw [hq0, hq1]; rfl)
    rw [hq1] at T1
    clear hq0 hq1
    go_enter Try.func24, Try.ntmps24
    go_wp2_with fail
    generalize (w.alloc (.cells #[.int .i64 x, .int .i64 y, .int .i64 u, .int .i64 v, .int .i64 h, .int .i64 c] 28)).alloc (.cells #[.int .i64 p, .int .i64 q] 25) = W0 at *
    have AN0 := Lib.hid (Below.refl W0.heap.size W0)
    refine (T0.out W0).mono ?_
    rintro e V1 ⟨rfl, hb1⟩
    have AN1 := Lib.hid (AN0.out.trans (hb1.mono AN0.out.size))
    clear hb1 AN0
    have m0_ : V1.cell? ⟨w.heap.size, 0, none⟩ = some (.int .i64 x) := (S0.out.old AN1.out).cell 0
    have m1_ : V1.cell? ⟨w.heap.size, 1, none⟩ = some (.int .i64 y) := (S0.out.old AN1.out).cell 1
    have m2_ : V1.cell? ⟨w.heap.size, 2, none⟩ = some (.int .i64 u) := (S0.out.old AN1.out).cell 2
    have m3_ : V1.cell? ⟨w.heap.size, 3, none⟩ = some (.int .i64 v) := (S0.out.old AN1.out).cell 3
    have m4_ : V1.cell? ⟨w.heap.size, 4, none⟩ = some (.int .i64 h) := (S0.out.old AN1.out).cell 4
    have m5_ : V1.cell? ⟨w.heap.size, 5, none⟩ = some (.int .i64 c) := (S0.out.old AN1.out).cell 5
    have p0_ : V1.cell? ⟨w.heap.size + 1, 0, none⟩ = some (.int .i64 p) := (S1.out.old AN1.out).cell 0
    have p1_ : V1.cell? ⟨w.heap.size + 1, 1, none⟩ = some (.int .i64 q) := (S1.out.old AN1.out).cell 1
    go_wp2_with fail
    clear m0_ m1_ m2_ m3_ m4_ m5_ p0_ p1_
    refine (T1.out V1).mono ?_
    rintro e V2 ⟨rfl, hb2⟩
    have AN2 := Lib.hid (AN1.out.trans (hb2.mono AN1.out.size))
    clear hb2 AN1
    have BX := Lib.hid (S0.out.1.trans (AN2.out.mono S0.out.1.size))
    go_wp2_with fail
    go_ret2
    exact ⟨by rw [nm_no HE.out, HE.out]; rfl, BX.out⟩
  rw [hq1] at T1
  have HE := Lib.hid (show nmB x y u v h c p q = true by unfold nmB; rw [hq0, hq1]; rfl)
  have HV := Lib.hid (nm_yes HE.out)
  obtain ⟨hx, hy, hu, hv, -, -⟩ := mo_in hq0
  obtain ⟨hp, hq⟩ := pB_yes hq1
  have HC := Lib.hid (fun W => courseOf x y u v h c W)
  have HK := Lib.hid (fun (k g : Nat) (W : World) (hk : k ≤ 60) (hm : Mo x y u v g W) => course1 x y u v k g W hm hx hy hu hv hk)
  have HD := Lib.hid (fun (k : Nat) (W : World) (hk : k ≤ 60) => show Calls Try.prog 62 #[.agg #[.int .i64 (x + u * (k : Int)), .int .i64 (y + v * (k : Int))], .agg #[.int .i64 p, .int .i64 q]] W (fun e w' => e = .returned (.int .i64 (sqd x y u v p q k)) ∧ Below W.heap.size W w') from mota.squaredDistance (x + u * (k : Int)) (y + v * (k : Int)) p q W (by have := far hx hu hk; omega) (by have := far hy hv hk; omega))
  clear hq0 hq1 hx hy hu hv hp hq
  go_enter Try.func24, Try.ntmps24
  go_wp2_with fail
  generalize (w.alloc (.cells #[.int .i64 x, .int .i64 y, .int .i64 u, .int .i64 v, .int .i64 h, .int .i64 c] 28)).alloc (.cells #[.int .i64 p, .int .i64 q] 25) = W0 at *
  have AN0 := Lib.hid (Below.refl W0.heap.size W0)
  refine (T0.out W0).mono ?_
  rintro e V1 ⟨rfl, hb1⟩
  have AN1 := Lib.hid (AN0.out.trans (hb1.mono AN0.out.size))
  clear hb1 AN0
  have m0_ : V1.cell? ⟨w.heap.size, 0, none⟩ = some (.int .i64 x) := (S0.out.old AN1.out).cell 0
  have m1_ : V1.cell? ⟨w.heap.size, 1, none⟩ = some (.int .i64 y) := (S0.out.old AN1.out).cell 1
  have m2_ : V1.cell? ⟨w.heap.size, 2, none⟩ = some (.int .i64 u) := (S0.out.old AN1.out).cell 2
  have m3_ : V1.cell? ⟨w.heap.size, 3, none⟩ = some (.int .i64 v) := (S0.out.old AN1.out).cell 3
  have m4_ : V1.cell? ⟨w.heap.size, 4, none⟩ = some (.int .i64 h) := (S0.out.old AN1.out).cell 4
  have m5_ : V1.cell? ⟨w.heap.size, 5, none⟩ = some (.int .i64 c) := (S0.out.old AN1.out).cell 5
  have p0_ : V1.cell? ⟨w.heap.size + 1, 0, none⟩ = some (.int .i64 p) := (S1.out.old AN1.out).cell 0
  have p1_ : V1.cell? ⟨w.heap.size + 1, 1, none⟩ = some (.int .i64 q) := (S1.out.old AN1.out).cell 1
  go_wp2_with fail
  clear m0_ m1_ m2_ m3_ m4_ m5_ p0_ p1_
  refine (T1.out V1).mono ?_
  rintro e V2 ⟨rfl, hb2⟩
  have AN2 := Lib.hid (AN1.out.trans (hb2.mono AN1.out.size))
  clear hb2 AN1
  have m0_ : V2.cell? ⟨w.heap.size, 0, none⟩ = some (.int .i64 x) := (S0.out.old AN2.out).cell 0
  have m1_ : V2.cell? ⟨w.heap.size, 1, none⟩ = some (.int .i64 y) := (S0.out.old AN2.out).cell 1
  have m2_ : V2.cell? ⟨w.heap.size, 2, none⟩ = some (.int .i64 u) := (S0.out.old AN2.out).cell 2
  have m3_ : V2.cell? ⟨w.heap.size, 3, none⟩ = some (.int .i64 v) := (S0.out.old AN2.out).cell 3
  have m4_ : V2.cell? ⟨w.heap.size, 4, none⟩ = some (.int .i64 h) := (S0.out.old AN2.out).cell 4
  have m5_ : V2.cell? ⟨w.heap.size, 5, none⟩ = some (.int .i64 c) := (S0.out.old AN2.out).cell 5
  have p0_ : V2.cell? ⟨w.heap.size + 1, 0, none⟩ = some (.int .i64 p) := (S1.out.old AN2.out).cell 0
  have p1_ : V2.cell? ⟨w.heap.size + 1, 1, none⟩ = some (.int .i64 q) := (S1.out.old AN2.out).cell 1
  go_wp2_with fail
  clear m0_ m1_ m2_ m3_ m4_ m5_ p0_ p1_
  refine (HC.out V2).mono ?_
  rintro e V8 ⟨g, rfl, sg⟩
  have AN8 := Lib.hid (AN2.out.trans (sg.1.mono AN2.out.size))
  have HM := Lib.hid (mo_of sg)
  clear sg
  go_wp2_with fail
  go_loopw [7, 19] (fun b i wr => ∃ k : Nat, k ≤ 61 ∧ b = .int .i64 (nmT (sqd x y u v p q) k : Nat) ∧ i = .int .i64 k ∧ Below V8.heap.size V8 wr) (fun _ i _ => 61 - (intOf i).toNat)
  case atStart => exact ⟨0, by omega, rfl, rfl, Below.refl _ _⟩
  case round =>
    obtain ⟨k, hk, rfl, rfl, hb⟩ := hrel
    have HB := Lib.hid hb
    clear hb
    by_cases hlt : k ≤ 60
    · have hlt2 : (k : Int) < 61 := by omega
      have hm60 : nmT (sqd x y u v p q) k ≤ 60 := by
        cases k with
        | zero => exact Nat.zero_le _
        | succ k => have := nmT_lt (sqd x y u v p q) k; omega
      have MW := Lib.hid (HM.out.next HB.out)
      have HB2 := Lib.hid (AN8.out.trans (HB.out.mono AN8.out.size))
      have K1 := Lib.hid (fun d0 os => Calls.regrown_of (HK.out k g (Sort.grow (redrawn wr d0) os) hlt (MW.out.next (below_regrown wr d0 os))))
      have K2 := Lib.hid (fun d0 os => Calls.regrown_of (HK.out (nmT (sqd x y u v p q) k) g (Sort.grow (redrawn wr d0) os) hm60 (MW.out.next (below_regrown wr d0 os))))
      have D1 := Lib.hid (fun d0 os => Calls.regrown_of (HD.out k (Sort.grow (redrawn wr d0) os) hlt))
      have D2 := Lib.hid (fun d0 os => Calls.regrown_of (HD.out (nmT (sqd x y u v p q) k) (Sort.grow (redrawn wr d0) os) hm60))
      have HYES := Lib.hid (fun h => nmT_yes (f := (sqd x y u v p q)) (k := k) h)
      have HNO := Lib.hid (fun (h : (sqd x y u v p q) (nmT (sqd x y u v p q) k) ≤ (sqd x y u v p q) k) => nmT_no (f := (sqd x y u v p q)) (k := k) (by omega))
      generalize nmT (sqd x y u v p q) k = n0 at *
      generalize x + u * (k : Int) = X1 at *
      generalize y + v * (k : Int) = Y1 at *
      generalize x + u * (n0 : Int) = X2 at *
      generalize y + v * (n0 : Int) = Y2 at *
      generalize sqd x y u v p q k = E1 at *
      generalize sqd x y u v p q n0 = E2 at *
      have p0_ : wr.cell? ⟨w.heap.size + 1, 0, none⟩ = some (.int .i64 p) := (S1.out.old HB2.out).cell 0
      have p1_ : wr.cell? ⟨w.heap.size + 1, 1, none⟩ = some (.int .i64 q) := (S1.out.old HB2.out).cell 1
      clear hm60
      go_wp2_with fail
      have p0_' := fun d0 os => cell_regrown p0_ d0 os
      have p1_' := fun d0 os => cell_regrown p1_ d0 os
      clear p0_ p1_
      refine wp_region_quiet_below (by kernel_rfl) (by kernel_rfl) ?_
      repeat (
        with_reducible refine wpQuiet_step (fun K hK => ?_)
        go_simp
        first
          | (refine hK _ ?_; clear hK K)
          | (apply Exists.intro
             refine ⟨fun _ => ?_, hK _ ?_⟩
             (first
               | (go_at_call 82; with_reducible exact K1.out _ _)
               | (go_at_call 82; with_reducible exact K2.out _ _)
               | (go_at_call 62; with_reducible exact D1.out _ _)
               | (go_at_call 62; with_reducible exact D2.out _ _))
             clear hK K))
      with_reducible refine wpQuiet_nil ?_
      intro _ hw'
      obtain ⟨⟨dq, osq⟩, hw''⟩ := hw'
      subst hw''
      have hbl := (below_regrown wr dq osq)
      clear p0_' p1_'
      generalize Sort.grow (redrawn wr dq) osq = W9 at *
      have HB9 := Lib.hid (HB.out.trans (hbl.mono HB.out.size))
      clear hbl HB K1 K2 D1 D2 MW HB2
      by_cases hc : E1 < E2
      · have HN := Lib.hid (HYES.out hc)
        clear HYES HNO
        go_wp2_with fail
        go_roundw
        case rel => exact ⟨k + 1, by omega, by rw [HN.out], by go_num, HB9.out⟩
        case measure => simp [intOf]; omega
      · have HN := Lib.hid (HNO.out (by omega))
        clear HYES HNO
        go_wp2_with fail
        go_roundw
        case rel => exact ⟨k + 1, by omega, by rw [HN.out], by go_num, HB9.out⟩
        case measure => simp [intOf]; omega
    · obtain rfl : k = 61 := by omega
      have BX := Lib.hid (S0.out.1.trans ((AN8.out.trans (HB.out.mono AN8.out.size)).mono S0.out.1.size))
      go_wp2_with fail
      go_ret2
      exact ⟨by rw [HV.out, HE.out]; rfl, BX.out⟩

end Go.Proofs.Ytinkkdgjpcnklaa.motc
