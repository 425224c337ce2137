/- impl's mayJoin, and the search for the group of a sighting. -/
import Derived.Test.YtdjcbfeilkepmaaDoorPltI
import Derived.Test.YtdjcbfeilkepmaaDoorRws
namespace Go.Proofs.YtdjcbfeilkepmaaDoor.pltj
open Go.RowKit Go.Proofs.YtdjcbfeilkepmaaDoor.ints Go.Proofs.YtdjcbfeilkepmaaDoor.lst Go.Proofs.YtdjcbfeilkepmaaDoor.in_ Go.Proofs.YtdjcbfeilkepmaaDoor.ats Go.Proofs.YtdjcbfeilkepmaaDoor.pos Go.Proofs.YtdjcbfeilkepmaaDoor.plt Go.Proofs.YtdjcbfeilkepmaaDoor.pltm Go.Proofs.YtdjcbfeilkepmaaDoor.plte Go.Proofs.YtdjcbfeilkepmaaDoor.plti Go.Proofs.YtdjcbfeilkepmaaDoor.rws

/-- The five numbers of sighting k; those of a group. -/
def sig (zs : List Int) (k : Nat) : List Int := [fld 5 zs k 0, fld 5 zs k 1, fld 5 zs k 2, fld 5 zs k 3, fld 5 zs k 4]
def flatI (zs : List Int) (q : List Nat) : List Int := q.flatMap (sig zs)
theorem flat_length (zs : List Int) (q : List Nat) : (flatI zs q).length = q.length * 5 := by
  induction q with
  | nil => rfl
  | cons a l ih =>
    show (sig zs a ++ flatI zs l).length = _
    rw [List.length_append, ih, List.length_cons]
    show 5 + _ = _
    omega
theorem flat_app (zs : List Int) (q : List Nat) (k : Nat) : flatI zs (q ++ [k]) = flatI zs q ++ sig zs k := by simp [flatI]
theorem flat_fld {zs : List Int} : ∀ {q : List Nat} {j m i : Nat}, q[j]? = some m → i < 5 → fld 5 (flatI zs q) j i = fld 5 zs m i
  | [], j, m, i, h, _ => by simp at h
  | a :: l, 0, m, i, h, hi => by
    have : a = m := by simpa using h
    subst this
    show (sig zs a ++ flatI zs l).getD (0 * 5 + i) 0 = _
    rw [Nat.zero_mul, Nat.zero_add, List.getD_eq_getElem?_getD, List.getElem?_append_left (by show i < 5; omega)]
    rcases show i = 0 ∨ i = 1 ∨ i = 2 ∨ i = 3 ∨ i = 4 by omega with h | h | h | h | h <;> subst h <;> rfl
  | a :: l, j + 1, m, i, h, hi => by
    have h' : l[j]? = some m := by simpa using h
    rw [← flat_fld (zs := zs) (q := l) h' hi]
    show (sig zs a ++ flatI zs l).getD ((j + 1) * 5 + i) 0 = (flatI zs l).getD (j * 5 + i) 0
    rw [List.getD_eq_getElem?_getD, List.getElem?_append_right (by show 5 ≤ _; omega), List.getD_eq_getElem?_getD]
    congr 2
    show (j + 1) * 5 + i - 5 = _
    omega
def rowI (zs : List Int) (q : List Nat) : List Value := cellsI (flatI zs q)
theorem rowI_length (zs : List Int) (q : List Nat) : (rowI zs q).length = q.length * 5 := by unfold rowI cellsI; rw [List.length_map, flat_length]
theorem rowI_app (zs : List Int) (q : List Nat) (k : Nat) : rowI zs q ++ [.int .i64 (fld 5 zs k 0), .int .i64 (fld 5 zs k 1), .int .i64 (fld 5 zs k 2), .int .i64 (fld 5 zs k 3), .int .i64 (fld 5 zs k 4)] = rowI zs (q ++ [k]) := by
  unfold rowI
  rw [flat_app]
  unfold cellsI
  rw [List.map_append]; rfl

theorem isOfSite (t s' t' a' x' y' : Int) (ps : Nat) (w : World) (hc : w.cell? ⟨ps, 1, none⟩ = some (.int .i64 t)) :
    Calls Tryd.prog 90 #[.agg #[.int .i64 s', .int .i64 t', .int .i64 a', .int .i64 x', .int .i64 y'], .pointer (some ⟨ps, 0, none⟩)] w fun e w' => e = .returned (.bool (t' == t)) ∧ Below w.heap.size w w' := by
  have B0 := (Below.refl w.heap.size w).alloc (Nat.le_refl _) (.cells #[.int .i64 s', .int .i64 t', .int .i64 a', .int .i64 x', .int .i64 y'] 72)
  have c1 := (B0.cell (p := ⟨ps, 1, none⟩) (World.block_lt_of_cell? _ _ hc)).trans hc
  have HB := Lib.hid B0
  clear B0 hc
  go_enter Tryd.func90, Tryd.ntmps90
  go_wp2_with fail
  go_ret
  exact ⟨rfl, HB.out⟩

set_option maxRecDepth 100000 in
set_option maxHeartbeats 1000000 in
theorem indexSite (zs : List Int) (k : Nat) (q : List Nat) (A : Option Addr) (n c ps : Nat) (w : World) (hq : q.length = n) (hn : n ≤ 1048577) (hc : w.cell? ⟨ps, 1, none⟩ = some (.int .i64 (fld 5 zs k 1))) (h1 : RdZ 5 w w.heap.size A n (flatI zs q)) :
    Calls Tryd.prog 97 #[.slice A n c, .func (.func 90) #[] #[.pointer (some ⟨ps, 0, none⟩)]] w fun e w' => (∃ v : Int, e = .returned (.int .i64 v) ∧ decide (0 ≤ v) = !noB zs k q) ∧ Below w.heap.size w w' := by
  have hps := World.block_lt_of_cell? _ _ hc
  have HC := Lib.hid (fun (W : World) (hb : Below w.heap.size w W) => (hb.cell (p := ⟨ps, 1, none⟩) hps).trans hc)
  have HR := Lib.hid h1
  clear h1 hc hps
  go_enter Tryd.func97, Tryd.ntmps97
  go_wp2_with fail
  go_loopw [8] (fun i wr => ∃ j : Nat, j ≤ n ∧ i = .int .i64 j ∧ Below w.heap.size w wr ∧ noB zs k (q.take j) = true) (fun i _ => n - (intOf i).toNat)
  case atStart => exact ⟨0, Nat.zero_le _, rfl, Below.refl _ _, by rw [List.take_zero]; rfl⟩
  case round =>
    obtain ⟨j, hj, rfl, hb, hno⟩ := hrel
    have HB := Lib.hid hb
    by_cases hlt : j < n
    · obtain ⟨m, hm⟩ : ∃ m, q[j]? = some m := ⟨_, List.getElem?_eq_getElem (by rw [hq]; exact hlt)⟩
      obtain ⟨b1, o1, rfl, -, p0, p1, p2, p3, p4⟩ := cellsE (HR.out.below hb (Nat.le_refl _)) hlt
      rw [flat_fld hm (by decide)] at p0 p1 p2 p3 p4
      have hlt2 : (j : Int) < (n : Int) := by omega
      have hj0 : (0 : Int) ≤ (j : Int) := Int.natCast_nonneg _
      have hc1 := HC.out wr hb
      have X1 := Lib.hid (isOfSite (fld 5 zs k 1) (fld 5 zs m 0) (fld 5 zs m 1) (fld 5 zs m 2) (fld 5 zs m 3) (fld 5 zs m 4) ps wr hc1)
      have HT := Lib.hid (noB_take (zs := zs) (k := k) hm)
      rw [hno, Bool.true_and] at HT
      have HX := Lib.hid (show fld 5 zs m 1 = fld 5 zs k 1 → noB zs k q = false from fun h => by
        unfold noB
        rw [List.all_eq_false]
        exact ⟨m, List.mem_of_getElem? hm, by simp [h]⟩)
      clear hb hno hm hq hc1
      by_cases he : fld 5 zs m 1 = fld 5 zs k 1
      · have HN := Lib.hid (HX.out he)
        have hbe : (fld 5 zs m 1 == fld 5 zs k 1) = true := beq_iff_eq.mpr he
        rw [hbe] at X1
        clear HX HT he hbe
        generalize fld 5 zs m 0 = u0 at *
        generalize fld 5 zs m 1 = u1 at *
        generalize fld 5 zs m 2 = u2 at *
        generalize fld 5 zs m 3 = u3 at *
        generalize fld 5 zs m 4 = u4 at *
        go_wp2_with fail
        refine X1.out.mono ?_
        rintro e w2 ⟨rfl, hb2⟩
        have HBB := Lib.hid (HB.out.trans (hb2.mono HB.out.size))
        clear hb2 p0 p1 p2 p3 p4
        go_wp2_with fail
        go_ret
        exact ⟨⟨_, rfl, by rw [HN.out, decide_eq_true hj0]; rfl⟩, HBB.out⟩
      · have hbe : (fld 5 zs m 1 == fld 5 zs k 1) = false := beq_eq_false_iff_ne.mpr he
        rw [hbe] at X1
        have HTT := Lib.hid (show noB zs k (q.take (j + 1)) = true by rw [HT.out, decide_eq_true he])
        clear HX HT he hbe
        generalize fld 5 zs m 0 = u0 at *
        generalize fld 5 zs m 1 = u1 at *
        generalize fld 5 zs m 2 = u2 at *
        generalize fld 5 zs m 3 = u3 at *
        generalize fld 5 zs m 4 = u4 at *
        go_wp2_with fail
        refine X1.out.mono ?_
        rintro e w2 ⟨rfl, hb2⟩
        have HBB := Lib.hid (HB.out.trans (hb2.mono HB.out.size))
        clear hb2 p0 p1 p2 p3 p4
        go_wp2_with fail
        go_roundw
        case rel => exact ⟨j + 1, by omega, by go_num, HBB.out, HTT.out⟩
        case measure => simp [intOf]; omega
    · obtain rfl : j = n := by omega
      have HO := Lib.hid (show noB zs k q = true by rw [← hq, List.take_length] at hno; exact hno)
      clear hb hno HR
      go_wp2_with fail
      go_ret
      exact ⟨⟨_, rfl, by rw [HO.out]; rfl⟩, HB.out⟩
theorem hasSite (zs : List Int) (k : Nat) (q : List Nat) (A : Option Addr) (n c ps : Nat) (w : World) (hq : q.length = n) (hn : n ≤ 1048577) (hc : w.cell? ⟨ps, 1, none⟩ = some (.int .i64 (fld 5 zs k 1))) (h1 : RdZ 5 w w.heap.size A n (flatI zs q)) :
    Calls Tryd.prog 92 #[.slice A n c, .func (.func 90) #[] #[.pointer (some ⟨ps, 0, none⟩)]] w fun e w' => e = .returned (.bool (!noB zs k q)) ∧ Below w.heap.size w w' := by
  have H := Lib.hid (indexSite zs k q A n c ps w hq hn hc h1)
  clear h1 hc
  go_enter Tryd.func92, Tryd.ntmps92
  go_wp2_with fail
  refine H.out.mono ?_
  rintro e w2 ⟨⟨v, rfl, hv⟩, hb⟩
  have HV := Lib.hid hv
  clear hv
  go_wp2_with fail
  go_ret
  exact ⟨by rw [← HV.out]; rfl, hb⟩

/-- What mayJoin and the closure of groupsOf are asked on: sighting k and a group of earlier ones. -/
def Asks (zs : List Int) (n k : Nat) (q : List Nat) : Prop := svB zs n = true ∧ k < n ∧ (∀ i ∈ q, i < n) ∧ 0 < q.length ∧ q.length ≤ 20

set_option maxRecDepth 100000 in
set_option maxHeartbeats 1000000 in
theorem mayJoin (zs : List Int) (ww r : Int) (N k : Nat) (q : List Nat) (A : Option Addr) (n c : Nat) (w : World) (hq : q.length = n) (ha : Asks zs N k q) (h1 : RdZ 5 w w.heap.size A n (flatI zs q)) :
    Calls Tryd.prog 83 #[.agg #[.int .i64 (fld 5 zs k 0), .int .i64 (fld 5 zs k 1), .int .i64 (fld 5 zs k 2), .int .i64 (fld 5 zs k 3), .int .i64 (fld 5 zs k 4)], .slice A n c, .int .i64 ww, .int .i64 r] w fun e w' => e = .returned (.bool (fitB zs ww r k q)) ∧ Below w.heap.size w w' := by
  obtain ⟨hs, hk, hm, h0, h20⟩ := ha
  have hq0 : q[0]? = some (q.headD 0) := by cases q with
    | nil => simp at h0
    | cons a l => rfl
  have hm0 := hm _ (List.mem_of_getElem? hq0)
  obtain ⟨x1, x2, x3, x4, x5⟩ := sv_at hs hk
  obtain ⟨y1, y2, y3, y4, y5⟩ := sv_at hs hm0
  have E0 := newS 72 #[.int .i64 (fld 5 zs k 0), .int .i64 (fld 5 zs k 1), .int .i64 (fld 5 zs k 2), .int .i64 (fld 5 zs k 3), .int .i64 (fld 5 zs k 4)] w
  obtain ⟨b1, o1, rfl, lb, p0, p1, p2, p3, p4⟩ := cellsE (h1.below E0.1 (Nat.le_refl _)) (show 0 < n by omega)
  rw [flat_fld hq0 (by decide), Nat.zero_mul, Nat.add_zero] at p0 p1 p2 p3 p4
  have a0 : (w.alloc (.cells #[.int .i64 (fld 5 zs k 0), .int .i64 (fld 5 zs k 1), .int .i64 (fld 5 zs k 2), .int .i64 (fld 5 zs k 3), .int .i64 (fld 5 zs k 4)] 72)).cell? ⟨w.heap.size, 0, none⟩ = some (.int .i64 (fld 5 zs k 0)) := E0.cell 0
  have a1 : (w.alloc (.cells #[.int .i64 (fld 5 zs k 0), .int .i64 (fld 5 zs k 1), .int .i64 (fld 5 zs k 2), .int .i64 (fld 5 zs k 3), .int .i64 (fld 5 zs k 4)] 72)).cell? ⟨w.heap.size, 1, none⟩ = some (.int .i64 (fld 5 zs k 1)) := E0.cell 1
  have a2 : (w.alloc (.cells #[.int .i64 (fld 5 zs k 0), .int .i64 (fld 5 zs k 1), .int .i64 (fld 5 zs k 2), .int .i64 (fld 5 zs k 3), .int .i64 (fld 5 zs k 4)] 72)).cell? ⟨w.heap.size, 2, none⟩ = some (.int .i64 (fld 5 zs k 2)) := E0.cell 2
  have a3 : (w.alloc (.cells #[.int .i64 (fld 5 zs k 0), .int .i64 (fld 5 zs k 1), .int .i64 (fld 5 zs k 2), .int .i64 (fld 5 zs k 3), .int .i64 (fld 5 zs k 4)] 72)).cell? ⟨w.heap.size, 3, none⟩ = some (.int .i64 (fld 5 zs k 3)) := E0.cell 3
  have a4 : (w.alloc (.cells #[.int .i64 (fld 5 zs k 0), .int .i64 (fld 5 zs k 1), .int .i64 (fld 5 zs k 2), .int .i64 (fld 5 zs k 3), .int .i64 (fld 5 zs k 4)] 72)).cell? ⟨w.heap.size, 4, none⟩ = some (.int .i64 (fld 5 zs k 4)) := E0.cell 4
  have D0 := fun w => areDuplicates ww r (fld 5 zs k 0) (fld 5 zs k 1) (fld 5 zs k 2) (fld 5 zs k 3) (fld 5 zs k 4) (fld 5 zs (q.headD 0) 0) (fld 5 zs (q.headD 0) 1) (fld 5 zs (q.headD 0) 2) (fld 5 zs (q.headD 0) 3) (fld 5 zs (q.headD 0) 4) w ⟨x1, y1⟩ ⟨x4, y4⟩ ⟨x5, y5⟩
  have HF := Lib.hid (show fitB zs ww r k q = (tw ww r (fld 5 zs k 0) (fld 5 zs k 2) (fld 5 zs k 3) (fld 5 zs k 4) (fld 5 zs (q.headD 0) 0) (fld 5 zs (q.headD 0) 2) (fld 5 zs (q.headD 0) 3) (fld 5 zs (q.headD 0) 4) && noB zs k q) by
    rw [tw_comm]; rfl)
  have SC := fun (W : World) (hb : Below (w.alloc (.cells #[.int .i64 (fld 5 zs k 0), .int .i64 (fld 5 zs k 1), .int .i64 (fld 5 zs k 2), .int .i64 (fld 5 zs k 3), .int .i64 (fld 5 zs k 4)] 72)).heap.size (w.alloc (.cells #[.int .i64 (fld 5 zs k 0), .int .i64 (fld 5 zs k 1), .int .i64 (fld 5 zs k 2), .int .i64 (fld 5 zs k 3), .int .i64 (fld 5 zs k 4)] 72)) W) => hasSite zs k q (some ⟨b1, o1, none⟩) n c w.heap.size W hq (by omega) ((hb.cell (p := ⟨w.heap.size, 1, none⟩) E0.2.2.1).trans a1) (h1.next (E0.1.trans (hb.mono E0.1.size)))
  have HE := Lib.hid E0.1
  have hn0 : (0 : Int) < (n : Int) := by omega
  have hn1 : 0 < n := by omega
  clear x1 x2 x3 x4 x5 y1 y2 y3 y4 y5 hm0 hq0 hs hm E0 lb h1
  generalize hW : w.alloc (.cells #[.int .i64 (fld 5 zs k 0), .int .i64 (fld 5 zs k 1), .int .i64 (fld 5 zs k 2), .int .i64 (fld 5 zs k 3), .int .i64 (fld 5 zs k 4)] 72) = W0 at *
  generalize tw ww r (fld 5 zs k 0) (fld 5 zs k 2) (fld 5 zs k 3) (fld 5 zs k 4) (fld 5 zs (q.headD 0) 0) (fld 5 zs (q.headD 0) 2) (fld 5 zs (q.headD 0) 3) (fld 5 zs (q.headD 0) 4) = tb at *
  have T1 := Lib.hid (fun w d0 os => Calls.regrown_of (D0 (Sort.grow (redrawn w d0) os)))
  have T2 := Lib.hid (fun d0 os => Calls.regrown_of (SC _ (below_regrown W0 d0 os)))
  have HW := Lib.hid hW
  clear D0 SC hW
  generalize noB zs k q = nb at *
  generalize fld 5 zs k 0 = u0 at *
  generalize fld 5 zs (q.headD 0) 0 = v0 at *
  generalize fld 5 zs k 1 = u1 at *
  generalize fld 5 zs (q.headD 0) 1 = v1 at *
  generalize fld 5 zs k 2 = u2 at *
  generalize fld 5 zs (q.headD 0) 2 = v2 at *
  generalize fld 5 zs k 3 = u3 at *
  generalize fld 5 zs (q.headD 0) 3 = v3 at *
  generalize fld 5 zs k 4 = u4 at *
  generalize fld 5 zs (q.headD 0) 4 = v4 at *
  cases tb
  · go_enter Tryd.func83, Tryd.ntmps83
    go_upto_region 2 with fail
    rw [HW.out]
    have p0' := fun d0 os => cell_regrown p0 d0 os
    have p1' := fun d0 os => cell_regrown p1 d0 os
    have p2' := fun d0 os => cell_regrown p2 d0 os
    have p3' := fun d0 os => cell_regrown p3 d0 os
    have p4' := fun d0 os => cell_regrown p4 d0 os
    have a0' := fun d0 os => cell_regrown a0 d0 os
    have a1' := fun d0 os => cell_regrown a1 d0 os
    have a2' := fun d0 os => cell_regrown a2 d0 os
    have a3' := fun d0 os => cell_regrown a3 d0 os
    have a4' := fun d0 os => cell_regrown a4 d0 os
    clear p0 p1 p2 p3 p4 a0 a1 a2 a3 a4
    refine wp_region_quiet_below (by kernel_rfl) (by kernel_rfl) ?_
    repeat (
      with_reducible refine wpQuiet_step (fun K hK => ?_)
      go_simp
      first
        | (refine hK _ ?_; clear hK K)
        | (apply Exists.intro
           refine ⟨fun _ => ?_, hK _ ?_⟩
           (first
             | (go_at_call 91; with_reducible exact T1.out _ _ _)
             | (go_at_call 92; with_reducible exact T2.out _ _))
           clear hK K))
    with_reducible refine wpQuiet_nil ?_
    intro _ hw'
    obtain ⟨⟨dq, osq⟩, hw''⟩ := hw'
    subst hw''
    have hbl := Lib.hid (HE.out.trans ((below_regrown W0 dq osq).mono HE.out.size))
    clear p0' p1' p2' p3' p4' a0' a1' a2' a3' a4' T1 T2
    generalize Sort.grow (redrawn W0 dq) osq = w3 at *
    go_wp2_with fail
    go_ret
    exact ⟨by rw [HF.out]; rfl, hbl.out⟩
    
  go_enter Tryd.func83, Tryd.ntmps83
  go_upto_region 2 with fail
  rw [HW.out]
  have p0' := fun d0 os => cell_regrown p0 d0 os
  have p1' := fun d0 os => cell_regrown p1 d0 os
  have p2' := fun d0 os => cell_regrown p2 d0 os
  have p3' := fun d0 os => cell_regrown p3 d0 os
  have p4' := fun d0 os => cell_regrown p4 d0 os
  have a0' := fun d0 os => cell_regrown a0 d0 os
  have a1' := fun d0 os => cell_regrown a1 d0 os
  have a2' := fun d0 os => cell_regrown a2 d0 os
  have a3' := fun d0 os => cell_regrown a3 d0 os
  have a4' := fun d0 os => cell_regrown a4 d0 os
  clear p0 p1 p2 p3 p4 a0 a1 a2 a3 a4
  refine wp_region_quiet_below (by kernel_rfl) (by kernel_rfl) ?_
  repeat (
    with_reducible refine wpQuiet_step (fun K hK => ?_)
    go_simp
    first
      | (refine hK _ ?_; clear hK K)
      | (apply Exists.intro
         refine ⟨fun _ => ?_, hK _ ?_⟩
         (first
           | (go_at_call 91; with_reducible exact T1.out _ _ _)
           | (go_at_call 92; with_reducible exact T2.out _ _))
         clear hK K))
  with_reducible refine wpQuiet_nil ?_
  intro _ hw'
  obtain ⟨⟨dq, osq⟩, hw''⟩ := hw'
  subst hw''
  have hbl := Lib.hid (HE.out.trans ((below_regrown W0 dq osq).mono HE.out.size))
  clear p0' p1' p2' p3' p4' a0' a1' a2' a3' a4' T1 T2
  generalize Sort.grow (redrawn W0 dq) osq = w3 at *
  go_wp2_with fail
  go_ret
  exact ⟨by rw [HF.out]; rfl, hbl.out⟩


theorem joins (zs : List Int) (ww r : Int) (N k : Nat) (q : List Nat) (A : Option Addr) (n c ps pw pr : Nat) (w : World) (hq : q.length = n) (ha : Asks zs N k q) (hs0 : w.cell? ⟨ps, 0, none⟩ = some (.int .i64 (fld 5 zs k 0))) (hs1 : w.cell? ⟨ps, 1, none⟩ = some (.int .i64 (fld 5 zs k 1))) (hs2 : w.cell? ⟨ps, 2, none⟩ = some (.int .i64 (fld 5 zs k 2))) (hs3 : w.cell? ⟨ps, 3, none⟩ = some (.int .i64 (fld 5 zs k 3))) (hs4 : w.cell? ⟨ps, 4, none⟩ = some (.int .i64 (fld 5 zs k 4))) (hw : w.cell? ⟨pw, 0, none⟩ = some (.int .i64 ww)) (hr : w.cell? ⟨pr, 0, none⟩ = some (.int .i64 r)) (h1 : RdZ 5 w w.heap.size A n (flatI zs q)) :
    Calls Tryd.prog 82 #[.slice A n c, .pointer (some ⟨ps, 0, none⟩), .pointer (some ⟨pw, 0, none⟩), .pointer (some ⟨pr, 0, none⟩)] w fun e w' => e = .returned (.bool (fitB zs ww r k q)) ∧ Below w.heap.size w w' := by
  have H := Lib.hid (mayJoin zs ww r N k q A n c w hq ha h1)
  clear h1 ha
  generalize fitB zs ww r k q = b at *
  go_enter Tryd.func82, Tryd.ntmps82
  go_wp2_with fail
  refine H.out.mono ?_
  rintro e w2 ⟨rfl, hb⟩
  clear hs0 hs1 hs2 hs3 hs4 hw hr
  go_wp2_with fail
  go_ret
  exact ⟨rfl, hb⟩

/-- impl's slice of groups, of the call's own. -/
def GI (zs : List Int) (B : Nat) (W : World) (v : Value) (G : List (List Nat)) : Prop := Gr B 37 72 5 W v (G.map (rowI zs))
section
variable {zs : List Int} {B : Nat} {W W' : World} {v : Value} {G : List (List Nat)}
theorem GI.below (h : GI zs B W v G) (hb : Below W.heap.size W W') : GI zs B W' v G := Gr.below h hb
theorem GI.slice (h : GI zs B W v G) : ∃ A c, v = .slice A G.length c := by
  obtain ⟨A, c, e⟩ := Gr.slice h
  rw [List.length_map] at e
  exact ⟨A, c, e⟩
theorem GI.read (h : GI zs B W v G) {g : Nat} {q : List Nat} (hq : G[g]? = some q) :
    ∃ ob oc A uc, v = .slice (some ⟨ob, 0, none⟩) G.length oc ∧ ob < W.heap.size ∧ B ≤ ob ∧ W.cell? ⟨ob, g, none⟩ = some (.slice A q.length uc) ∧ W.frozen? ⟨ob, g, none⟩ = false ∧
      W.ownsRow B 72 5 (.slice A q.length uc) q.length (rowI zs q) ∧ (∀ gb, (Value.slice A q.length uc).ownBlock = some gb → gb ≠ ob) := by
  have hr : (G.map (rowI zs))[g]? = some (rowI zs q) := by rw [List.getElem?_map, hq]; rfl
  obtain ⟨ob, oc, u, e, h1, h2, h3, h4, h5⟩ := Gr.at_ h hr (by decide) (rowI_length zs q)
  rw [List.length_map] at e
  obtain ⟨A, uc, rfl⟩ := own_sliceZ h5
  refine ⟨ob, oc, A, uc, e, h1, h2, h3, h4, h5, fun gb hgb e0 => ?_⟩
  obtain ⟨us, hus, _⟩ := h
  exact rws.apart h5 hus (by decide) hgb (by rw [e, ← e0]; rfl)
theorem GI.app (h : GI zs B W v G) {g ob oc k : Nat} {q : List Nat} {u u' : Value} (hq : G[g]? = some q) (hv : v = .slice (some ⟨ob, 0, none⟩) G.length oc) (hu : W.cell? ⟨ob, g, none⟩ = some u)
    (hg : W.grownBy W' u.ownBlock) (ho : W'.ownsRow B 72 5 u' (q.length + 1) (rowI zs q ++ [.int .i64 (fld 5 zs k 0), .int .i64 (fld 5 zs k 1), .int .i64 (fld 5 zs k 2), .int .i64 (fld 5 zs k 3), .int .i64 (fld 5 zs k 4)])) (hn : u'.ownBlock = u.ownBlock ∨ u'.ownBlock = some W.heap.size) : GI zs B (W'.setCell ⟨ob, g, none⟩ u') v (G.set g (q ++ [k])) := by
  have hl := (List.getElem?_eq_some_iff.1 hq).1
  rw [rowI_app] at ho
  have := Gr.set_ h (by decide) (i := g) (by rw [List.length_map]; exact hl) (by rw [List.length_map]; exact hv) hu hg ho hn
  unfold GI
  rw [List.map_set]
  exact this
/-- An empty group more. -/
theorem GI.push {us : List Value} (h1 : W.ownsRow B 37 1 v G.length us) (h2 : Ins B 72 5 W us (G.map (rowI zs))) {W1 : World} {v' : Value} (hb : Below W.heap.size W W1)
    (hg : W1.grownBy W' v.ownBlock) (ho : W'.ownsRow B 37 1 v' (G.length + 1) (us ++ [.slice none 0 0])) : GI zs B W' v' (G ++ [[]]) := by
  have h1' := own_.own_below h1 hb
  have h3 := (h2.below hb).push (World.ownsRow_nil W1 B 72 5) (fun g i u' e1 e2 e3 => by simp [Value.ownBlock] at e1)
  refine ⟨us ++ [.slice none 0 0], by rw [List.map_append, List.length_append, List.length_map]; exact ho, ?_⟩
  rw [List.map_append]
  refine h3.kept hg fun g j w0 e hw hg0 => ?_
  obtain ⟨k1, r1, ho1⟩ := h3.row hw
  exact rws.apart ho1 h1' (by decide) hg0 e
end

/-- The number of the group, or -1. -/
def gix (zs : List Int) (ww r : Int) (k : Nat) (G : List (List Nat)) : Int := if pos zs ww r k G < G.length then ((pos zs ww r k G : Nat) : Int) else -1
set_option maxRecDepth 100000 in
set_option maxHeartbeats 2000000 in
theorem indexGroup (zs : List Int) (ww r : Int) (N k B : Nat) (G : List (List Nat)) (A : Option Addr) (n c ps pw pr : Nat) (w : World) (hG : G.length = n) (hn : n ≤ 20) (ha : ∀ q ∈ G, Asks zs N k q) (hs0 : w.cell? ⟨ps, 0, none⟩ = some (.int .i64 (fld 5 zs k 0))) (hs1 : w.cell? ⟨ps, 1, none⟩ = some (.int .i64 (fld 5 zs k 1))) (hs2 : w.cell? ⟨ps, 2, none⟩ = some (.int .i64 (fld 5 zs k 2))) (hs3 : w.cell? ⟨ps, 3, none⟩ = some (.int .i64 (fld 5 zs k 3))) (hs4 : w.cell? ⟨ps, 4, none⟩ = some (.int .i64 (fld 5 zs k 4))) (hw : w.cell? ⟨pw, 0, none⟩ = some (.int .i64 ww)) (hr : w.cell? ⟨pr, 0, none⟩ = some (.int .i64 r)) (h1 : GI zs B w (.slice A n c) G) :
    Calls Tryd.prog 81 #[.slice A n c, .func (.func 82) #[] #[.pointer (some ⟨ps, 0, none⟩), .pointer (some ⟨pw, 0, none⟩), .pointer (some ⟨pr, 0, none⟩)]] w fun e w' => e = .returned (.int .i64 (gix zs ww r k G)) ∧ Below w.heap.size w w' := by
  have CS := Lib.hid (fun (W : World) (hb : Below w.heap.size w W) => show W.cell? ⟨ps, 0, none⟩ = some (.int .i64 (fld 5 zs k 0)) ∧ W.cell? ⟨ps, 1, none⟩ = some (.int .i64 (fld 5 zs k 1)) ∧ W.cell? ⟨ps, 2, none⟩ = some (.int .i64 (fld 5 zs k 2)) ∧ W.cell? ⟨ps, 3, none⟩ = some (.int .i64 (fld 5 zs k 3)) ∧ W.cell? ⟨ps, 4, none⟩ = some (.int .i64 (fld 5 zs k 4)) ∧ W.cell? ⟨pw, 0, none⟩ = some (.int .i64 ww) ∧ W.cell? ⟨pr, 0, none⟩ = some (.int .i64 r) from ⟨(hb.cell (World.block_lt_of_cell? _ _ hs0)).trans hs0, (hb.cell (World.block_lt_of_cell? _ _ hs1)).trans hs1, (hb.cell (World.block_lt_of_cell? _ _ hs2)).trans hs2, (hb.cell (World.block_lt_of_cell? _ _ hs3)).trans hs3, (hb.cell (World.block_lt_of_cell? _ _ hs4)).trans hs4, (hb.cell (World.block_lt_of_cell? _ _ hw)).trans hw, (hb.cell (World.block_lt_of_cell? _ _ hr)).trans hr⟩)
  have HG := Lib.hid h1
  have HA := Lib.hid ha
  clear h1 ha hs0 hs1 hs2 hs3 hs4 hw hr
  go_enter Tryd.func81, Tryd.ntmps81
  go_wp2_with fail
  go_loopw [8] (fun i wr => ∃ g : Nat, g ≤ n ∧ i = .int .i64 g ∧ Below w.heap.size w wr ∧ ∀ i q, i < g → G[i]? = some q → fitB zs ww r k q = false) (fun i _ => n - (intOf i).toNat)
  case atStart => exact ⟨0, Nat.zero_le _, rfl, Below.refl _ _, fun i q h => absurd h (Nat.not_lt_zero _)⟩
  case round =>
    obtain ⟨g, hg, rfl, hb, hno⟩ := hrel
    have HB := Lib.hid hb
    have HNF := Lib.hid hno
    by_cases hlt : g < n
    · obtain ⟨q, hq⟩ : ∃ q, G[g]? = some q := ⟨_, List.getElem?_eq_getElem (by rw [hG]; exact hlt)⟩
      obtain ⟨ob, oc, A2, uc, hv, hob, -, q0, -, own, -⟩ := (HG.out.below hb).read hq
      obtain ⟨rfl, rfl⟩ : A = some ⟨ob, 0, none⟩ ∧ c = oc := by injection hv with e1 e2 e3; exact ⟨e1, e3⟩
      obtain ⟨c0, c1, c2, c3, c4, c5, c6⟩ := CS.out wr hb
      have J := Lib.hid (joins zs ww r N k q A2 q.length uc ps pw pr wr rfl (HA.out q (List.mem_of_getElem? hq)) c0 c1 c2 c3 c4 c5 c6 (RdZ.of_own own (flat_length zs q)))
      have HQ := Lib.hid hq
      have hlt2 : (g : Int) < (n : Int) := by omega
      have hg0 : (0 : Int) ≤ (g : Int) := Int.natCast_nonneg _
      clear hb hno hv own c0 c1 c2 c3 c4 c5 c6 hq
      generalize q.length = ql at *
      cases hf : fitB zs ww r k q
      · rw [hf] at J
        have HT := Lib.hid (show ∀ i q', i < g + 1 → G[i]? = some q' → fitB zs ww r k q' = false from fun i q' hi hq' => by
          rcases Nat.lt_or_ge i g with h | h
          · exact HNF.out i q' h hq'
          · obtain rfl : i = g := by omega
            have e := hq'.symm.trans HQ.out
            injection e with e
            rw [e]; exact hf)
        clear hf HNF
        go_wp2_with fail
        refine J.out.mono ?_
        rintro e w2 ⟨rfl, hb2⟩
        have HBB := Lib.hid (HB.out.trans (hb2.mono HB.out.size))
        clear hb2 q0
        go_wp2_with fail
        go_roundw
        case rel => exact ⟨g + 1, by omega, by go_num, HBB.out, HT.out⟩
        case measure => simp [intOf]; omega
      · rw [hf] at J
        have HP := Lib.hid (show gix zs ww r k G = (g : Int) by unfold gix; rw [pos_is HNF.out HQ.out hf, hG, if_pos hlt])
        clear hf HNF
        go_wp2_with fail
        refine J.out.mono ?_
        rintro e w2 ⟨rfl, hb2⟩
        have HBB := Lib.hid (HB.out.trans (hb2.mono HB.out.size))
        clear hb2 q0
        go_wp2_with fail
        go_ret
        exact ⟨by rw [HP.out]; rfl, HBB.out⟩
    · obtain rfl : g = n := by omega
      have HP := Lib.hid (show gix zs ww r k G = -1 by
        unfold gix
        rw [pos_end (fun i q h hq => HNF.out i q (by rw [hG] at h; exact h) hq), if_neg (Nat.lt_irrefl _)])
      clear hb hno
      go_wp2_with fail
      go_ret
      exact ⟨by rw [HP.out]; rfl, HB.out⟩
end Go.Proofs.YtdjcbfeilkepmaaDoor.pltj
