/- The texts of velocities: spec's l8Text, VelocityText; impl's VelocityText. -/
import Derived.Test.YtdeghpihcddlgaaDoorVelW
import Derived.BigQuiet
import Derived.Deep.QuietTactic
namespace Go.Proofs.YtdeghpihcddlgaaDoor.vely
open Go.RowKit Go.Proofs.YtdeghpihcddlgaaDoor.vel Go.Proofs.YtdeghpihcddlgaaDoor.ats Go.Proofs.YtdeghpihcddlgaaDoor.num Go.Proofs.YtdeghpihcddlgaaDoor.velw

set_option maxRecDepth 100000 in
set_option maxHeartbeats 4000000 in
theorem text8 (x y : Int) (hv : vB x y = true) (w : World) :
    Calls Tryd.prog 29 #[.agg #[.int .i64 x, .int .i64 y]] w fun e w' => e = .returned (.string (vt x y)) ∧ Below w.heap.size w w' := by
  obtain ⟨hx, hy⟩ := vB_yes hv
  have B0 := Lib.hid (newS 25 #[.int .i64 x, .int .i64 y] w)
  have H1 := Lib.hid (fun w d => Calls.quiet_of (part8 y 78 83 hy (World.drewN w d)))
  have H2 := Lib.hid (fun w d => Calls.quiet_of (part8 x 69 87 hx (World.drewN w d)))
  have z1 := pt_size 78 83 hy
  have z2 := pt_size 69 87 hx
  have e1 := pt_nil y 78 83
  have e2 := pt_nil x 69 87
  have HO := Lib.hid (fun h h2 => vt_one (x := x) (y := y) h h2)
  have HT := Lib.hid (fun h => vt_two (x := x) (y := y) h)
  clear hv hx hy
  generalize pt y 78 83 = P at *
  generalize pt x 69 87 = Q at *
  by_cases hx : x = 0
  · rw [decide_eq_true hx] at e2
    by_cases hy : y = 0
    · rw [decide_eq_true hy] at e1
      have HE := Lib.hid (aid.ret_str (show (⟨#[48]⟩ : ByteArray) = vt x y by rw [hx, hy]; rfl))
      clear hx hy
      go_enter Tryd.func29, Tryd.ntmps29
      go_wp2_with fail
      generalize w.alloc (.cells #[.int .i64 x, .int .i64 y] 25) = W at *
      have c0 : W.cell? ⟨w.heap.size, 0, none⟩ = some (.int .i64 x) := B0.out.cell 0
      have c1 : W.cell? ⟨w.heap.size, 1, none⟩ = some (.int .i64 y) := B0.out.cell 1
      go_quiet (first
        | (go_at_call 51; first | (with_reducible exact H1.out _ _) | (with_reducible exact H2.out _ _)))
      go_wp2_with fail
      go_ret
      exact ⟨HE.out, aid.below_drewN B0.out.1 _⟩
    · rw [decide_eq_false hy] at e1
      have HE := Lib.hid (aid.ret_str (HO.out (fun h => hy h.2) (Or.inl hx)))
      clear hx hy
      go_enter Tryd.func29, Tryd.ntmps29
      go_wp2_with fail
      generalize w.alloc (.cells #[.int .i64 x, .int .i64 y] 25) = W at *
      have c0 : W.cell? ⟨w.heap.size, 0, none⟩ = some (.int .i64 x) := B0.out.cell 0
      have c1 : W.cell? ⟨w.heap.size, 1, none⟩ = some (.int .i64 y) := B0.out.cell 1
      go_quiet (first
        | (go_at_call 51; first | (with_reducible exact H1.out _ _) | (with_reducible exact H2.out _ _)))
      go_wp2_with fail
      go_ret
      exact ⟨HE.out, aid.below_drewN B0.out.1 _⟩
  · rw [decide_eq_false hx] at e2
    by_cases hy : y = 0
    · rw [decide_eq_true hy] at e1
      have HE := Lib.hid (aid.ret_str (HO.out (fun h => hx h.1) (Or.inr hy)))
      clear hx hy
      go_enter Tryd.func29, Tryd.ntmps29
      go_wp2_with fail
      generalize w.alloc (.cells #[.int .i64 x, .int .i64 y] 25) = W at *
      have c0 : W.cell? ⟨w.heap.size, 0, none⟩ = some (.int .i64 x) := B0.out.cell 0
      have c1 : W.cell? ⟨w.heap.size, 1, none⟩ = some (.int .i64 y) := B0.out.cell 1
      go_quiet (first
        | (go_at_call 51; first | (with_reducible exact H1.out _ _) | (with_reducible exact H2.out _ _)))
      go_wp2_with fail
      go_ret
      exact ⟨HE.out, aid.below_drewN B0.out.1 _⟩
    · rw [decide_eq_false hy] at e1
      have HE := Lib.hid (aid.ret_str (HT.out (fun h => h.elim hx hy)))
      clear hx hy
      go_enter Tryd.func29, Tryd.ntmps29
      go_wp2_with fail
      generalize w.alloc (.cells #[.int .i64 x, .int .i64 y] 25) = W at *
      have c0 : W.cell? ⟨w.heap.size, 0, none⟩ = some (.int .i64 x) := B0.out.cell 0
      have c1 : W.cell? ⟨w.heap.size, 1, none⟩ = some (.int .i64 y) := B0.out.cell 1
      go_quiet (first
        | (go_at_call 51; first | (with_reducible exact H1.out _ _) | (with_reducible exact H2.out _ _)))
      go_wp2_with fail
      go_ret
      exact ⟨HE.out, aid.below_drewN B0.out.1 _⟩

set_option maxRecDepth 100000 in
theorem specText (x y : Int) (w : World) :
    Calls Tryd.prog 10 #[.agg #[.int .i64 x, .int .i64 y]] w fun e w' => e = .returned (.tuple #[.string (vtT x y), .bool (vB x y)]) ∧ Below w.heap.size w w' := by
  have hg := fun w => vels.good8 x y w
  have B0 := Lib.hid (newS 25 #[.int .i64 x, .int .i64 y] w)
  cases hb : vB x y
  · have HN := Lib.hid (vt_no hb)
    rw [hb] at hg HN
    have HG := Lib.hid hg
    clear hg hb
    go_enter Tryd.func10, Tryd.ntmps10
    go_wp2_with fail
    generalize w.alloc (.cells #[.int .i64 x, .int .i64 y] 25) = W at *
    refine (HG.out _).mono ?_
    rintro e w1 ⟨rfl, hb1⟩
    have B1 := Lib.hid (B0.out.old hb1)
    clear hb1
    go_wp2_with fail
    go_ret2
    exact ⟨congrArg Ending.returned HN.out, B1.out.1⟩
  · have HN := Lib.hid (vt_yes hb rfl)
    have HT := Lib.hid (fun w => text8 x y hb w)
    rw [hb] at hg HN
    have HG := Lib.hid hg
    clear hg hb
    generalize vt x y = t at *
    go_enter Tryd.func10, Tryd.ntmps10
    go_wp2_with fail
    generalize w.alloc (.cells #[.int .i64 x, .int .i64 y] 25) = W at *
    refine (HG.out _).mono ?_
    rintro e w1 ⟨rfl, hb1⟩
    have B1 := Lib.hid (B0.out.old hb1)
    have c0 : w1.cell? ⟨w.heap.size, 0, none⟩ = some (.int .i64 x) := B1.out.cell 0
    have c1 : w1.cell? ⟨w.heap.size, 1, none⟩ = some (.int .i64 y) := B1.out.cell 1
    clear hb1 B0
    go_wp2_with fail
    refine (HT.out _).mono ?_
    rintro e w2 ⟨rfl, hb2⟩
    have B2 := Lib.hid (B1.out.old hb2)
    clear hb2 B1 c0 c1
    go_wp2_with fail
    go_ret2
    exact ⟨congrArg Ending.returned HN.out, B2.out.1⟩

set_option maxRecDepth 100000 in
set_option maxHeartbeats 8000000 in
theorem implText (x y : Int) (w : World) (ht : fmt.Tab w) :
    Calls Tryd.prog 7 #[.agg #[.int .i64 x, .int .i64 y]] w fun e w' => e = .returned (.tuple #[.string (vtT x y), .bool (vB x y)]) ∧ Below w.heap.size w w' := by
  have hg := fun w => veli.isValidVelocity x y w
  have B0 := Lib.hid (newS 25 #[.int .i64 x, .int .i64 y] w)
  cases hb : vB x y
  · have HN := Lib.hid (vt_no hb)
    rw [hb] at hg HN
    have HG := Lib.hid hg
    clear hg hb ht
    go_enter Tryd.func7, Tryd.ntmps7
    go_wp2_with fail
    generalize w.alloc (.cells #[.int .i64 x, .int .i64 y] 25) = W at *
    refine (HG.out _).mono ?_
    rintro e w1 ⟨rfl, hb1⟩
    have B1 := Lib.hid (B0.out.old hb1)
    clear hb1
    go_wp2_with fail
    go_ret2
    exact ⟨congrArg Ending.returned HN.out, B1.out.1⟩
  · have HN := Lib.hid (fun t h => vt_yes (t := t) hb h)
    obtain ⟨hx, hy⟩ := vB_yes hb
    have P1 := Lib.hid (fun (W : World) (h : Below w.heap.size w W) => valueText y 78 83 hy W (fmt.tab_on ht h))
    have P2 := Lib.hid (fun (W : World) (h : Below w.heap.size w W) => valueText x 69 87 hx W (fmt.tab_on ht h))
    have z1 := pt_size 78 83 hy
    have z2 := pt_size 69 87 hx
    have HO := Lib.hid (fun h h2 => vt_one (x := x) (y := y) h h2)
    have HT := Lib.hid (fun h => vt_two (x := x) (y := y) h)
    rw [hb] at hg HN
    have HG := Lib.hid hg
    clear hg hb ht hx hy
    generalize pt y 78 83 = P at *
    generalize pt x 69 87 = Q at *
    go_enter Tryd.func7, Tryd.ntmps7
    go_wp2_with fail
    generalize w.alloc (.cells #[.int .i64 x, .int .i64 y] 25) = W at *
    refine (HG.out _).mono ?_
    rintro e w1 ⟨rfl, hb1⟩
    have B1 := Lib.hid (B0.out.old hb1)
    clear hb1 B0
    go_upto_region 3 with fail
    have CS := Lib.hid (show ∀ WZ : World, Below w1.heap.size w1 WZ → WZ.cell? ⟨w.heap.size, 0, none⟩ = some (.int .i64 x) ∧ WZ.cell? ⟨w.heap.size, 1, none⟩ = some (.int .i64 y) from fun WZ hz => ⟨posx.at_cell (B1.out.old hz) 0 _ rfl, posx.at_cell (B1.out.old hz) 1 _ rfl⟩)
    have HB := Lib.hid (fun (W : World) (h : Below w1.heap.size w1 W) => B1.out.1.trans (h.mono B1.out.1.size))
    go_cut [4, 5] from 9 to 14 (fun u v wz => u = .string P ∧ v = .string Q ∧ Below w1.heap.size w1 wz)
    case first =>
      go_region_held3 (fun w' => w'.cell? ⟨w.heap.size, 0, none⟩ = some (.int .i64 x) ∧ w'.cell? ⟨w.heap.size, 1, none⟩ = some (.int .i64 y)) (first
        | with_reducible exact CS.out _ (Below.refl w1.heap.size w1).drew
        | with_reducible exact CS.out _ (by assumption)
        | go_keep) (first
        | (go_at_call 23; (with_reducible refine (P1.out _ (HB.out _ (by first | exact (Below.refl w1.heap.size w1).drew | assumption))).mono ?_); rintro e w' ⟨rfl, hb⟩
           have hbl := posx.bl_next (V := w1) (by first | exact (Below.refl w1.heap.size w1).drew | assumption) hb
           clear hb)
        | (go_at_call 23; (with_reducible refine (P2.out _ (HB.out _ (by first | exact (Below.refl w1.heap.size w1).drew | assumption))).mono ?_); rintro e w' ⟨rfl, hb⟩
           have hbl := posx.bl_next (V := w1) (by first | exact (Below.refl w1.heap.size w1).drew | assumption) hb
           clear hb))
      all_goals (go_wp2_with fail; go_meet; exact ⟨rfl, rfl, by assumption⟩)
    case rest =>
      obtain ⟨rfl, rfl, hw⟩ := hcut
      have B2 := Lib.hid (B1.out.old hw)
      clear hw CS HB B1
      generalize wc = w2 at *
      have c0 : w2.cell? ⟨w.heap.size, 0, none⟩ = some (.int .i64 x) := B2.out.cell 0
      have c1 : w2.cell? ⟨w.heap.size, 1, none⟩ = some (.int .i64 y) := B2.out.cell 1
      by_cases hx : x = 0
      · have g1 : (x == 0) = true := by simpa using hx
        by_cases hy : y = 0
        · have g2 : (y == 0) = true := by simpa using hy
          have HR := Lib.hid (HN.out ⟨#[48]⟩ (by rw [hx, hy]; rfl))
          clear hx hy
          go_wp2_with fail
          go_ret2
          exact ⟨congrArg Ending.returned HR.out, B2.out.1⟩
        · have g2 : (y == 0) = false := by simpa using hy
          have HR := Lib.hid (HN.out _ (HO.out (fun h => hy h.2) (Or.inl hx)))
          clear hx hy
          go_wp2_with fail
          go_ret2
          exact ⟨congrArg Ending.returned HR.out, B2.out.1⟩
      · have g1 : (x == 0) = false := by simpa using hx
        by_cases hy : y = 0
        · have g2 : (y == 0) = true := by simpa using hy
          have HR := Lib.hid (HN.out _ (HO.out (fun h => hx h.1) (Or.inr hy)))
          clear hx hy
          go_wp2_with fail
          go_ret2
          exact ⟨congrArg Ending.returned HR.out, B2.out.1⟩
        · have g2 : (y == 0) = false := by simpa using hy
          have HR := Lib.hid (HN.out _ (HT.out (fun h => h.elim hx hy)))
          clear hx hy
          go_wp2_with fail
          go_ret2
          exact ⟨congrArg Ending.returned HR.out, B2.out.1⟩
end Go.Proofs.YtdeghpihcddlgaaDoor.vely
