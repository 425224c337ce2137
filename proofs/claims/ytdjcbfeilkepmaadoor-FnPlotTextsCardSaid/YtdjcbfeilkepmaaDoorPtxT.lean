/- The texts of plots: spec's l13Text, PlotText; impl's PlotText. -/
import Derived.Test.YtdjcbfeilkepmaaDoorPtx
import Derived.Test.YtdjcbfeilkepmaaDoorPltW
import Derived.Test.YtdjcbfeilkepmaaDoorPltU
import Derived.Test.YtdjcbfeilkepmaaDoorFmtAll
import Derived.BigQuiet
import Derived.Deep.QuietTactic
namespace Go.Proofs.YtdjcbfeilkepmaaDoor.ptxt
open Go.RowKit Go.Proofs.YtdjcbfeilkepmaaDoor.num Go.Proofs.YtdjcbfeilkepmaaDoor.ints Go.Proofs.YtdjcbfeilkepmaaDoor.ats Go.Proofs.YtdjcbfeilkepmaaDoor.plt Go.Proofs.YtdjcbfeilkepmaaDoor.pltm Go.Proofs.YtdjcbfeilkepmaaDoor.ptx

theorem dg_next (t : ByteArray) (xs : List Int) (k : Nat) : dgT t xs k ++ txt (xs.getD k 0) = dgT t xs (k + 1) := rfl
theorem at_get {xs : List Int} {k : Nat} {z : Int} (h : xs[k]? = some z) : xs.getD k 0 = z := by rw [List.getD_eq_getElem?_getD, h]; rfl

set_option maxRecDepth 100000 in
set_option maxHeartbeats 4000000 in
theorem text13 (s a x y : Int) (xs : List Int) (A : Option Addr) (n c : Nat) (w : World) (hv : plB s a x y xs n = true) (h1 : RdI w w.heap.size A n xs) :
    Calls Tryd.prog 34 #[.agg #[.int .i64 s, .int .i64 a, .int .i64 x, .int .i64 y, .slice A n c]] w fun e w' => e = .returned (.string (ptxT s a x y xs n)) ∧ Below w.heap.size w w' := by
  have HL := Lib.hid h1.1
  obtain ⟨hs, ha, ⟨hx, hy⟩, hn, hr⟩ := plB_yes hv
  have E0 := Lib.hid (newS 28 #[.int .i64 s, .int .i64 a, .int .i64 x, .int .i64 y, .slice A n c] w)
  have H1 := Lib.hid (fun w d => Calls.quiet_of (num_any s (World.drewN w d) (by omega) (by omega) (by omega)))
  have H2 := Lib.hid (fun w d => Calls.quiet_of (num_any a (World.drewN w d) (by omega) (by omega) (by omega)))
  have H3 := Lib.hid (fun w d => Calls.quiet_of (num_any x (World.drewN w d) (by omega) (by omega) (by omega)))
  have H4 := Lib.hid (fun w d => Calls.quiet_of (num_any y (World.drewN w d) (by omega) (by omega) (by omega)))
  have z1 := txt_size s (by omega) (by omega)
  have z2 := txt_size a (by omega) (by omega)
  have z3 := txt_size x (by omega) (by omega)
  have z4 := txt_size y (by omega) (by omega)
  have HD := Lib.hid (show txt s ++ ⟨#[58, 32]⟩ ++ txt a ++ ⟨#[32, 97, 116, 32]⟩ ++ txt x ++ ⟨#[47]⟩ ++ txt y ++ ⟨#[32, 98, 121, 32]⟩ = hd s a x y from rfl)
  have HZ := Lib.hid (fun k (hk : k ≤ n) => show (dgT (hd s a x y) xs k).size ≤ 60 by
    rw [dg_size (by have := HL.out; omega) hr k hk]
    have := (hd_size (s := s) (a := a) (x := x) (y := y) (by omega) (by omega) (by omega) (by omega)).2
    omega)
  have HN := Lib.hid (fun k (hk : k < n) w => num_any (xs.getD k 0) w (by have := (riT_all hr k hk).1; omega) (by have := (riT_all hr k hk).1; omega) (by have := (riT_all hr k hk).1; omega))
  have HS := Lib.hid (fun k (hk : k < n) => txt_size (xs.getD k 0) (by have := (riT_all hr k hk).1; omega) (by have := (riT_all hr k hk).1; omega))
  have HE := Lib.hid (show dgT (hd s a x y) xs n = ptxT s a x y xs n from rfl)
  have HR := Lib.hid (fun (W : World) (hb : Below w.heap.size w W) => h1.next hb)
  obtain ⟨hn1, hn9⟩ := hn
  clear hv hs ha hx hy hr h1
  generalize txt s = P1 at *
  generalize txt a = P2 at *
  generalize txt x = P3 at *
  generalize txt y = P4 at *
  generalize hd s a x y = t0 at *
  generalize ptxT s a x y xs n = R at *
  go_enter Tryd.func34, Tryd.ntmps34
  go_upto_region 1 with fail
  generalize w.alloc (.cells #[.int .i64 s, .int .i64 a, .int .i64 x, .int .i64 y, .slice A n c] 28) = W at *
  have c0 : W.cell? ⟨w.heap.size, 0, none⟩ = some (.int .i64 s) := E0.out.cell 0
  have c1 : W.cell? ⟨w.heap.size, 1, none⟩ = some (.int .i64 a) := E0.out.cell 1
  have c2 : W.cell? ⟨w.heap.size, 2, none⟩ = some (.int .i64 x) := E0.out.cell 2
  have c3 : W.cell? ⟨w.heap.size, 3, none⟩ = some (.int .i64 y) := E0.out.cell 3
  have c4 : W.cell? ⟨w.heap.size, 4, none⟩ = some (.slice A n c) := E0.out.cell 4
  go_quiet (first
    | (go_at_call 69; first | (with_reducible exact H1.out _ _) | (with_reducible exact H2.out _ _) | (with_reducible exact H3.out _ _) | (with_reducible exact H4.out _ _)))
  rw [HD.out]
  have hbq := aid.below_drewN (Below.refl W.heap.size W) ‹Nat›
  go_wp2_with fail
  go_loopw [3, 4] (fun t i wr => ∃ k : Nat, k ≤ n ∧ t = .string (dgT t0 xs k) ∧ i = .int .i64 k ∧ Below W.heap.size W wr) (fun _ i _ => n - (intOf i).toNat)
  case atStart => exact ⟨0, Nat.zero_le _, rfl, rfl, hbq⟩
  case round =>
    obtain ⟨k, hk, rfl, rfl, hb⟩ := hrel
    clear c0 c1 c2 c3 c4
    have E1 := Lib.hid (E0.out.old hb)
    have c4 : wr.cell? ⟨w.heap.size, 4, none⟩ = some (.slice A n c) := E1.out.cell 4
    have HB := Lib.hid hb
    by_cases hlt : k < n
    · have hlt2 : (k : Int) < (n : Int) := by omega
      obtain ⟨b1, o1, z, rfl, l1, hz, p0⟩ := (HR.out wr E1.out.1).at_ hlt
      have N := HN.out k hlt
      have zz := HS.out k hlt
      have zt := HZ.out k hk
      have EX := Lib.hid (dg_next t0 xs k)
      rw [at_get hz] at N zz EX
      have N := Lib.hid N
      clear hb hz
      generalize txt z = u at *
      generalize dgT t0 xs k = t at *
      go_wp2_with fail
      refine (N.out _).mono ?_
      rintro e w2 ⟨rfl, j, rfl⟩
      have hb2 := Lib.hid (aid.below_drewN HB.out j)
      clear HB
      go_wp2_with fail
      rw [EX.out]
      go_roundw
      case rel => exact ⟨k + 1, by omega, rfl, by go_num, hb2.out⟩
      case measure => simp [intOf]; omega
    · obtain rfl : k = n := by omega
      have hE := HE.out
      generalize dgT t0 xs k = t at *
      subst hE
      clear hb
      go_wp2_with fail
      go_ret
      exact ⟨rfl, E1.out.1⟩

set_option maxRecDepth 100000 in
theorem plotTextS (s a x y : Int) (xs : List Int) (A : Option Addr) (n c : Nat) (w : World) (hn : n ≤ 1048577) (h1 : RdI w w.heap.size A n xs) :
    Calls Tryd.prog 9 #[.agg #[.int .i64 s, .int .i64 a, .int .i64 x, .int .i64 y, .slice A n c]] w fun e w' => e = .returned (.tuple #[.string (ptV s a x y xs n), .bool (plB s a x y xs n)]) ∧ Below w.heap.size w w' := by
  have E0 := Lib.hid (newS 28 #[.int .i64 s, .int .i64 a, .int .i64 x, .int .i64 y, .slice A n c] w)
  have hg := fun (W : World) (hb : Below w.heap.size w W) => pltw.plot13 s a x y xs A n c W hn (h1.next hb)
  cases hv : plB s a x y xs n
  · have HN := Lib.hid (pt_no hv)
    rw [hv] at hg HN
    have HG := Lib.hid hg
    clear hg hv h1
    go_enter Tryd.func9, Tryd.ntmps9
    go_wp2_with fail
    generalize w.alloc (.cells #[.int .i64 s, .int .i64 a, .int .i64 x, .int .i64 y, .slice A n c] 28) = W at *
    refine (HG.out _ E0.out.1).mono ?_
    rintro e w1 ⟨rfl, hb1⟩
    have B1 := Lib.hid (E0.out.old hb1)
    clear hb1
    go_wp2_with fail
    go_ret2
    exact ⟨HN.out, B1.out.1⟩
  · have HN := Lib.hid (pt_yes hv)
    have HT := Lib.hid (fun (W : World) (hb : Below w.heap.size w W) => text13 s a x y xs A n c W hv (h1.next hb))
    rw [hv] at hg HN
    have HG := Lib.hid hg
    clear hg hv h1
    generalize ptxT s a x y xs n = R at *
    go_enter Tryd.func9, Tryd.ntmps9
    go_wp2_with fail
    generalize w.alloc (.cells #[.int .i64 s, .int .i64 a, .int .i64 x, .int .i64 y, .slice A n c] 28) = W at *
    refine (HG.out _ E0.out.1).mono ?_
    rintro e w1 ⟨rfl, hb1⟩
    have B1 := Lib.hid (E0.out.old hb1)
    clear hb1 E0
    have c0 : w1.cell? ⟨w.heap.size, 0, none⟩ = some (.int .i64 s) := B1.out.cell 0
    have c1 : w1.cell? ⟨w.heap.size, 1, none⟩ = some (.int .i64 a) := B1.out.cell 1
    have c2 : w1.cell? ⟨w.heap.size, 2, none⟩ = some (.int .i64 x) := B1.out.cell 2
    have c3 : w1.cell? ⟨w.heap.size, 3, none⟩ = some (.int .i64 y) := B1.out.cell 3
    have c4 : w1.cell? ⟨w.heap.size, 4, none⟩ = some (.slice A n c) := B1.out.cell 4
    go_wp2_with fail
    refine (HT.out _ B1.out.1).mono ?_
    rintro e w2 ⟨rfl, hb2⟩
    have B2 := Lib.hid (B1.out.old hb2)
    clear hb2 B1 c0 c1 c2 c3 c4
    go_wp2_with fail
    go_ret2
    exact ⟨HN.out, B2.out.1⟩

set_option maxRecDepth 100000 in
set_option maxHeartbeats 4000000 in
theorem plotTextI (s a x y : Int) (xs : List Int) (A : Option Addr) (n c : Nat) (w : World) (hn : n ≤ 1048577) (h1 : RdI w w.heap.size A n xs) (ht : fmt.Tab w) :
    Calls Tryd.prog 8 #[.agg #[.int .i64 s, .int .i64 a, .int .i64 x, .int .i64 y, .slice A n c]] w fun e w' => e = .returned (.tuple #[.string (ptV s a x y xs n), .bool (plB s a x y xs n)]) ∧ Below w.heap.size w w' := by
  have E0 := Lib.hid (newS 28 #[.int .i64 s, .int .i64 a, .int .i64 x, .int .i64 y, .slice A n c] w)
  have hg := fun (W : World) (hb : Below w.heap.size w W) => pltu.isValidPlot s a x y xs A n c W hn (h1.next hb)
  cases hv : plB s a x y xs n
  · have HN := Lib.hid (pt_no hv)
    rw [hv] at hg HN
    have HG := Lib.hid hg
    clear hg hv h1 ht
    go_enter Tryd.func8, Tryd.ntmps8
    go_wp2_with fail
    generalize w.alloc (.cells #[.int .i64 s, .int .i64 a, .int .i64 x, .int .i64 y, .slice A n c] 28) = W at *
    refine (HG.out _ E0.out.1).mono ?_
    rintro e w1 ⟨rfl, hb1⟩
    have B1 := Lib.hid (E0.out.old hb1)
    clear hb1
    go_wp2_with fail
    go_ret2
    exact ⟨HN.out, B1.out.1⟩
  · have HNE := Lib.hid (pt_yes hv)
    have HL := Lib.hid h1.1
    obtain ⟨hs, ha, ⟨hx, hy⟩, hnn, hr⟩ := plB_yes hv
    have H1 := Lib.hid (fun (W : World) (hb : Below w.heap.size w W) => fmt.format_yes s W (by omega) (by omega) (fmt.tab_on ht hb))
    have H2 := Lib.hid (fun (W : World) (hb : Below w.heap.size w W) => fmt.format_yes a W (by omega) (by omega) (fmt.tab_on ht hb))
    have H3 := Lib.hid (fun (W : World) (hb : Below w.heap.size w W) => fmt.format_yes x W (by omega) (by omega) (fmt.tab_on ht hb))
    have H4 := Lib.hid (fun (W : World) (hb : Below w.heap.size w W) => fmt.format_yes y W (by omega) (by omega) (fmt.tab_on ht hb))
    have z1 := txt_size s (by omega) (by omega)
    have z2 := txt_size a (by omega) (by omega)
    have z3 := txt_size x (by omega) (by omega)
    have z4 := txt_size y (by omega) (by omega)
    have HD := Lib.hid (show txt s ++ ⟨#[58, 32]⟩ ++ txt a ++ ⟨#[32, 97, 116, 32]⟩ ++ txt x ++ ⟨#[47]⟩ ++ txt y ++ ⟨#[32, 98, 121, 32]⟩ = hd s a x y from rfl)
    have HZ := Lib.hid (fun k (hk : k ≤ n) => show (dgT (hd s a x y) xs k).size ≤ 60 by
      rw [dg_size (by have := HL.out; omega) hr k hk]
      have := (hd_size (s := s) (a := a) (x := x) (y := y) (by omega) (by omega) (by omega) (by omega)).2
      omega)
    have HN := Lib.hid (fun k (hk : k < n) (W : World) (hb : Below w.heap.size w W) => fmt.format_yes (xs.getD k 0) W (by have := (riT_all hr k hk).1; omega) (by have := (riT_all hr k hk).1; omega) (fmt.tab_on ht hb))
    have HS := Lib.hid (fun k (hk : k < n) => txt_size (xs.getD k 0) (by have := (riT_all hr k hk).1; omega) (by have := (riT_all hr k hk).1; omega))
    have HE := Lib.hid (show dgT (hd s a x y) xs n = ptxT s a x y xs n from rfl)
    have HR := Lib.hid (fun (W : World) (hb : Below w.heap.size w W) => h1.next hb)
    obtain ⟨hn1, hn9⟩ := hnn
    rw [hv] at hg HNE
    have HG := Lib.hid hg
    clear hv hs ha hx hy hr h1 ht hg
    generalize txt s = P1 at *
    generalize txt a = P2 at *
    generalize txt x = P3 at *
    generalize txt y = P4 at *
    generalize hd s a x y = t0 at *
    generalize ptxT s a x y xs n = R at *
    go_enter Tryd.func8, Tryd.ntmps8
    go_upto_region 1 with fail
    generalize w.alloc (.cells #[.int .i64 s, .int .i64 a, .int .i64 x, .int .i64 y, .slice A n c] 28) = W at *
    have c0 : W.cell? ⟨w.heap.size, 0, none⟩ = some (.int .i64 s) := E0.out.cell 0
    have c1 : W.cell? ⟨w.heap.size, 1, none⟩ = some (.int .i64 a) := E0.out.cell 1
    have c2 : W.cell? ⟨w.heap.size, 2, none⟩ = some (.int .i64 x) := E0.out.cell 2
    have c3 : W.cell? ⟨w.heap.size, 3, none⟩ = some (.int .i64 y) := E0.out.cell 3
    have c4 : W.cell? ⟨w.heap.size, 4, none⟩ = some (.slice A n c) := E0.out.cell 4
    go_wp2_with fail
    refine (HG.out _ E0.out.1).mono ?_
    rintro e W1 ⟨rfl, hb⟩
    have E1 := Lib.hid (E0.out.old hb)
    clear c0 c1 c2 c3 c4 E0 hb
    have c0 : W1.cell? ⟨w.heap.size, 0, none⟩ = some (.int .i64 s) := E1.out.cell 0
    have c1 : W1.cell? ⟨w.heap.size, 1, none⟩ = some (.int .i64 a) := E1.out.cell 1
    have c2 : W1.cell? ⟨w.heap.size, 2, none⟩ = some (.int .i64 x) := E1.out.cell 2
    have c3 : W1.cell? ⟨w.heap.size, 3, none⟩ = some (.int .i64 y) := E1.out.cell 3
    have c4 : W1.cell? ⟨w.heap.size, 4, none⟩ = some (.slice A n c) := E1.out.cell 4
    go_wp2_with fail
    refine (H1.out W1 E1.out.1).mono ?_
    rintro e W2 ⟨rfl, hb⟩
    have E2 := Lib.hid (E1.out.old hb)
    clear c0 c1 c2 c3 c4 E1 hb H1
    have c0 : W2.cell? ⟨w.heap.size, 0, none⟩ = some (.int .i64 s) := E2.out.cell 0
    have c1 : W2.cell? ⟨w.heap.size, 1, none⟩ = some (.int .i64 a) := E2.out.cell 1
    have c2 : W2.cell? ⟨w.heap.size, 2, none⟩ = some (.int .i64 x) := E2.out.cell 2
    have c3 : W2.cell? ⟨w.heap.size, 3, none⟩ = some (.int .i64 y) := E2.out.cell 3
    have c4 : W2.cell? ⟨w.heap.size, 4, none⟩ = some (.slice A n c) := E2.out.cell 4
    go_wp2_with fail
    refine (H2.out W2 E2.out.1).mono ?_
    rintro e W3 ⟨rfl, hb⟩
    have E3 := Lib.hid (E2.out.old hb)
    clear c0 c1 c2 c3 c4 E2 hb H2
    have c0 : W3.cell? ⟨w.heap.size, 0, none⟩ = some (.int .i64 s) := E3.out.cell 0
    have c1 : W3.cell? ⟨w.heap.size, 1, none⟩ = some (.int .i64 a) := E3.out.cell 1
    have c2 : W3.cell? ⟨w.heap.size, 2, none⟩ = some (.int .i64 x) := E3.out.cell 2
    have c3 : W3.cell? ⟨w.heap.size, 3, none⟩ = some (.int .i64 y) := E3.out.cell 3
    have c4 : W3.cell? ⟨w.heap.size, 4, none⟩ = some (.slice A n c) := E3.out.cell 4
    go_wp2_with fail
    refine (H3.out W3 E3.out.1).mono ?_
    rintro e W4 ⟨rfl, hb⟩
    have E4 := Lib.hid (E3.out.old hb)
    clear c0 c1 c2 c3 c4 E3 hb H3
    have c0 : W4.cell? ⟨w.heap.size, 0, none⟩ = some (.int .i64 s) := E4.out.cell 0
    have c1 : W4.cell? ⟨w.heap.size, 1, none⟩ = some (.int .i64 a) := E4.out.cell 1
    have c2 : W4.cell? ⟨w.heap.size, 2, none⟩ = some (.int .i64 x) := E4.out.cell 2
    have c3 : W4.cell? ⟨w.heap.size, 3, none⟩ = some (.int .i64 y) := E4.out.cell 3
    have c4 : W4.cell? ⟨w.heap.size, 4, none⟩ = some (.slice A n c) := E4.out.cell 4
    go_wp2_with fail
    refine (H4.out W4 E4.out.1).mono ?_
    rintro e W5 ⟨rfl, hb⟩
    have E5 := Lib.hid (E4.out.old hb)
    clear c0 c1 c2 c3 c4 E4 hb H4
    have c0 : W5.cell? ⟨w.heap.size, 0, none⟩ = some (.int .i64 s) := E5.out.cell 0
    have c1 : W5.cell? ⟨w.heap.size, 1, none⟩ = some (.int .i64 a) := E5.out.cell 1
    have c2 : W5.cell? ⟨w.heap.size, 2, none⟩ = some (.int .i64 x) := E5.out.cell 2
    have c3 : W5.cell? ⟨w.heap.size, 3, none⟩ = some (.int .i64 y) := E5.out.cell 3
    have c4 : W5.cell? ⟨w.heap.size, 4, none⟩ = some (.slice A n c) := E5.out.cell 4
    go_upto_region 8 with fail
    rw [HD.out]
    clear z1 z2 z3 z4
    go_wp2_with fail
    go_loopw [12, 14, 15, 16, 60] (fun t _ _ _ i wr => ∃ k : Nat, k ≤ n ∧ t = .string (dgT t0 xs k) ∧ i = .int .i64 k ∧ Below W5.heap.size W5 wr) (fun _ _ _ _ i _ => n - (intOf i).toNat)
    case atStart => exact ⟨0, Nat.zero_le _, rfl, rfl, Below.refl _ _⟩
    case round =>
      obtain ⟨k, hk, rfl, rfl, hb⟩ := hrel
      clear c0 c1 c2 c3 c4
      have E6 := Lib.hid (E5.out.old hb)
      have HB := Lib.hid hb
      by_cases hlt : k < n
      · have hlt2 : (k : Int) < (n : Int) := by omega
        obtain ⟨b1, o1, z, rfl, l1, hz, p0⟩ := (HR.out wr E6.out.1).at_ hlt
        have N := HN.out k hlt wr E6.out.1
        have zz := HS.out k hlt
        have zt := HZ.out k hk
        have EX := Lib.hid (dg_next t0 xs k)
        rw [at_get hz] at N zz EX
        have N := Lib.hid N
        clear hb hz
        generalize txt z = u at *
        generalize dgT t0 xs k = t at *
        go_wp2_with fail
        refine N.out.mono ?_
        rintro e w2 ⟨rfl, hb⟩
        have hb2 := Lib.hid (HB.out.trans (hb.mono HB.out.size))
        clear HB hb
        go_wp2_with fail
        rw [EX.out]
        go_roundw
        case rel => exact ⟨k + 1, by omega, rfl, by go_num, hb2.out⟩
        case measure => simp [intOf]; omega
      · obtain rfl : k = n := by omega
        have hE := HE.out
        generalize dgT t0 xs k = t at *
        subst hE
        clear hb
        go_wp2_with fail
        go_ret2
        exact ⟨HNE.out, E6.out.1⟩
end Go.Proofs.YtdjcbfeilkepmaaDoor.ptxt
