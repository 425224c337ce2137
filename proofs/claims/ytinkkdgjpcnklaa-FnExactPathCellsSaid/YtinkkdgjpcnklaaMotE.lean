/- spec.PathCells. -/
import Derived.Test.YtinkkdgjpcnklaaMotD
namespace Go.Proofs.Ytinkkdgjpcnklaa.mote
open Go.RowKit Go.Proofs.Ytinkkdgjpcnklaa.ints Go.Proofs.Ytinkkdgjpcnklaa.lst Go.Proofs.Ytinkkdgjpcnklaa.in_ Go.Proofs.Ytinkkdgjpcnklaa.ats Go.Proofs.Ytinkkdgjpcnklaa.pos Go.Proofs.Ytinkkdgjpcnklaa.vel Go.Proofs.Ytinkkdgjpcnklaa.hgt Go.Proofs.Ytinkkdgjpcnklaa.mot Go.Proofs.Ytinkkdgjpcnklaa.mots Go.Proofs.Ytinkkdgjpcnklaa.motd Go.Proofs.Ytinkkdgjpcnklaa.tailh

theorem own_some {w : World} {B e n c : Nat} {A : Option Addr} {xs : List Value} (h : w.ownsRow B e 2 (.slice A n c) n xs) (hn : 0 < n) : ∃ g, A = some ⟨g, 0, none⟩ := by
  rcases h.2 with ⟨_, h0⟩ | ⟨g, cap, cur, e, _⟩
  · omega
  · injection e with e1
    exact ⟨g, e1⟩
theorem last_cell {w : World} {B e g c k : Nat} {F G : Nat → Int} (h : w.ownsRow B e 2 (.slice (some ⟨g, 0, none⟩) (cpN F G (k + 1)) c) (cpN F G (k + 1)) (cellsI (cp F G (k + 1)))) {N : Nat} (hN : N + 1 = cpN F G (k + 1)) :
    w.cell? ⟨g, N * 2, none⟩ = some (.int .i64 (F k)) ∧ w.cell? ⟨g, N * 2 + 1, none⟩ = some (.int .i64 (G k)) := by
  have hl := cp_last F G k
  rw [← hN, Nat.add_sub_cancel] at hl
  rw [h.cellAt (N * 2) (by omega), h.cellAt (N * 2 + 1) (by omega)]
  unfold cellsI
  rw [List.getElem?_map, List.getElem?_map, hl.1, hl.2]
  exact ⟨rfl, rfl⟩
theorem below_from {B : Nat} {w W W' : World} (h : Below B w W) (hB : B ≤ w.heap.size) (hb : Below W.heap.size W W') : Below B w W' := h.trans (hb.mono (Nat.le_trans hB h.size))
set_option maxRecDepth 100000 in
set_option maxHeartbeats 8000000 in
theorem pathCells (x y u v h c m s : Int) (w : World) :
    Calls Try.prog 32 #[.agg #[.int .i64 x, .int .i64 y, .int .i64 u, .int .i64 v, .int .i64 h, .int .i64 c], .int .i64 m, .int .i64 s] w fun e w' => ∃ r, e = .returned (.tuple #[r, .bool (pcB x y u v h c m s)]) ∧ w'.ownsRow w.heap.size 25 2 r (pcN x y u v h c m s) (cellsI (pcV x y u v h c m s)) ∧ Below w.heap.size w w' := by
  have S0 := Lib.hid ((newS 28 #[.int .i64 x, .int .i64 y, .int .i64 u, .int .i64 v, .int .i64 h, .int .i64 c] w).alloc (.cells #[] 25))
  have OW0 := Lib.hid (own_emptyZ (w.alloc (.cells #[.int .i64 x, .int .i64 y, .int .i64 u, .int .i64 v, .int .i64 h, .int .i64 c] 28)) 25 2)
  rw [World.size_alloc] at OW0
  have HZ0 := Lib.hid (show w.heap.size + 1 ≤ ((w.alloc (.cells #[.int .i64 x, .int .i64 y, .int .i64 u, .int .i64 v, .int .i64 h, .int .i64 c] 28)).alloc (.cells #[] 25)).heap.size by rw [World.size_alloc, World.size_alloc]; omega)
  have T0 := Lib.hid (fun W => good16 x y u v h c W)
  have T1 := Lib.hid (fun W => l1In m 0 60 W)
  have T2 := Lib.hid (fun W => l1In s 1 1000 W)
  cases hq0 : moB x y u v h c
  · have HE := Lib.hid (pc_fail0 (x := x) (y := y) (u := u) (v := v) (h := h) (c := c) (m := m) (s := s) hq0)
    rw [hq0] at T0
    clear hq0
    go_enter Try.func32, Try.ntmps32
    go_wp2_with fail
    generalize (w.alloc (.cells #[.int .i64 x, .int .i64 y, .int .i64 u, .int .i64 v, .int .i64 h, .int .i64 c] 28)).alloc (.cells #[] 25) = W0 at *
    have AN0 := Lib.hid (Below.refl W0.heap.size W0)
    refine (T0.out W0).mono ?_
    rintro e V1 ⟨rfl, hb1⟩
    have AN1 := Lib.hid (AN0.out.trans (hb1.mono AN0.out.size))
    clear hb1 AN0
    have BX := Lib.hid (S0.out.1.trans (AN1.out.mono S0.out.1.size))
    have OX := Lib.hid (own_.own_base (own_.own_below OW0.out AN1.out) (Nat.le_succ _))
    go_wp2_with fail
    go_ret2
    exact ⟨.slice (some ⟨w.heap.size + 1, 0, none⟩) 0 0, by rw [HE.out]; rfl, by rw [(pc_no HE.out).1, (pc_no HE.out).2]; exact OX.out, BX.out⟩
  rw [hq0] at T0
  cases hq1 : isIn m 0 60
  · have HE := Lib.hid (pc_fail1 (x := x) (y := y) (u := u) (v := v) (h := h) (c := c) (m := m) (s := s) hq1)
    rw [hq1] at T1
    clear hq0 hq1
    go_enter Try.func32, Try.ntmps32
    go_wp2_with fail
    generalize (w.alloc (.cells #[.int .i64 x, .int .i64 y, .int .i64 u, .int .i64 v, .int .i64 h, .int .i64 c] 28)).alloc (.cells #[] 25) = W0 at *
    have AN0 := Lib.hid (Below.refl W0.heap.size W0)
    refine (T0.out W0).mono ?_
    rintro e V1 ⟨rfl, hb1⟩
    have AN1 := Lib.hid (AN0.out.trans (hb1.mono AN0.out.size))
    clear hb1 AN0
    have m0_ : V1.cell? ⟨w.heap.size, 0, none⟩ = some (.int .i64 x) := (S0.out.old AN1.out).cell 0
    have m1_ : V1.cell? ⟨w.heap.size, 1, none⟩ = some (.int .i64 y) := (S0.out.old AN1.out).cell 1
    have m2_ : V1.cell? ⟨w.heap.size, 2, none⟩ = some (.int .i64 u) := (S0.out.old AN1.out).cell 2
    have m3_ : V1.cell? ⟨w.heap.size, 3, none⟩ = some (.int .i64 v) := (S0.out.old AN1.out).cell 3
    have m4_ : V1.cell? ⟨w.heap.size, 4, none⟩ = some (.int .i64 h) := (S0.out.old AN1.out).cell 4
    have m5_ : V1.cell? ⟨w.heap.size, 5, none⟩ = some (.int .i64 c) := (S0.out.old AN1.out).cell 5
    go_wp2_with fail
    clear m0_ m1_ m2_ m3_ m4_ m5_
    refine (T1.out V1).mono ?_
    rintro e w' ⟨rfl, rfl⟩
    have BX := Lib.hid (S0.out.1.trans (AN1.out.mono S0.out.1.size))
    have OX := Lib.hid (own_.own_base (own_.own_below OW0.out AN1.out) (Nat.le_succ _))
    go_wp2_with fail
    go_ret2
    exact ⟨.slice (some ⟨w.heap.size + 1, 0, none⟩) 0 0, by rw [HE.out]; rfl, by rw [(pc_no HE.out).1, (pc_no HE.out).2]; exact OX.out, BX.out⟩
  rw [hq1] at T1
  cases hq2 : isIn s 1 1000
  · have HE := Lib.hid (pc_fail2 (x := x) (y := y) (u := u) (v := v) (h := h) (c := c) (m := m) (s := s) hq2)
    rw [hq2] at T2
    clear hq0 hq1 hq2
    go_enter Try.func32, Try.ntmps32
    go_wp2_with fail
    generalize (w.alloc (.cells #[.int .i64 x, .int .i64 y, .int .i64 u, .int .i64 v, .int .i64 h, .int .i64 c] 28)).alloc (.cells #[] 25) = W0 at *
    have AN0 := Lib.hid (Below.refl W0.heap.size W0)
    refine (T0.out W0).mono ?_
    rintro e V1 ⟨rfl, hb1⟩
    have AN1 := Lib.hid (AN0.out.trans (hb1.mono AN0.out.size))
    clear hb1 AN0
    have m0_ : V1.cell? ⟨w.heap.size, 0, none⟩ = some (.int .i64 x) := (S0.out.old AN1.out).cell 0
    have m1_ : V1.cell? ⟨w.heap.size, 1, none⟩ = some (.int .i64 y) := (S0.out.old AN1.out).cell 1
    have m2_ : V1.cell? ⟨w.heap.size, 2, none⟩ = some (.int .i64 u) := (S0.out.old AN1.out).cell 2
    have m3_ : V1.cell? ⟨w.heap.size, 3, none⟩ = some (.int .i64 v) := (S0.out.old AN1.out).cell 3
    have m4_ : V1.cell? ⟨w.heap.size, 4, none⟩ = some (.int .i64 h) := (S0.out.old AN1.out).cell 4
    have m5_ : V1.cell? ⟨w.heap.size, 5, none⟩ = some (.int .i64 c) := (S0.out.old AN1.out).cell 5
    go_wp2_with fail
    clear m0_ m1_ m2_ m3_ m4_ m5_
    refine (T1.out V1).mono ?_
    rintro e w' ⟨rfl, rfl⟩
    have m0_ : V1.cell? ⟨w.heap.size, 0, none⟩ = some (.int .i64 x) := (S0.out.old AN1.out).cell 0
    have m1_ : V1.cell? ⟨w.heap.size, 1, none⟩ = some (.int .i64 y) := (S0.out.old AN1.out).cell 1
    have m2_ : V1.cell? ⟨w.heap.size, 2, none⟩ = some (.int .i64 u) := (S0.out.old AN1.out).cell 2
    have m3_ : V1.cell? ⟨w.heap.size, 3, none⟩ = some (.int .i64 v) := (S0.out.old AN1.out).cell 3
    have m4_ : V1.cell? ⟨w.heap.size, 4, none⟩ = some (.int .i64 h) := (S0.out.old AN1.out).cell 4
    have m5_ : V1.cell? ⟨w.heap.size, 5, none⟩ = some (.int .i64 c) := (S0.out.old AN1.out).cell 5
    go_wp2_with fail
    clear m0_ m1_ m2_ m3_ m4_ m5_
    refine (T2.out V1).mono ?_
    rintro e w' ⟨rfl, rfl⟩
    have BX := Lib.hid (S0.out.1.trans (AN1.out.mono S0.out.1.size))
    have OX := Lib.hid (own_.own_base (own_.own_below OW0.out AN1.out) (Nat.le_succ _))
    go_wp2_with fail
    go_ret2
    exact ⟨.slice (some ⟨w.heap.size + 1, 0, none⟩) 0 0, by rw [HE.out]; rfl, by rw [(pc_no HE.out).1, (pc_no HE.out).2]; exact OX.out, BX.out⟩
  rw [hq2] at T2
  obtain ⟨M, rfl⟩ := Int.eq_ofNat_of_zero_le (isIn_yes hq1).1
  have hM : M ≤ 60 := by have := (isIn_yes hq1).2; omega
  have hM2 : (M : Int) ≤ 60 := by omega
  obtain ⟨hs1, hs2⟩ := isIn_yes hq2
  obtain ⟨hx, hy, hu, hv, -, -⟩ := mo_in hq0
  have HG := Lib.hid (fun hall => pc_good (h := h) (c := c) hq0 hM (isIn_of hs1 hs2) hall)
  have HF := Lib.hid (fun (k : Nat) (hk : k ≤ M) e => pc_fail3 (x := x) (y := y) (u := u) (v := v) (h := h) (c := c) (s := s) (M := M) (k := k) hk e)
  have HA := Lib.hid (fun (k : Nat) (W : World) (hk : k ≤ 60) => at16 x y u v h c (k : Int) W (by have := far hx hu hk; omega) (by have := far hy hv hk; omega) (by omega) (by omega))
  obtain ⟨j0, hj, hy0, hy1, hy2⟩ := info_parts infoP
  clear hq0 hq1 hq2 hx hy hu hv
  go_enter Try.func32, Try.ntmps32
  go_wp2_with fail
  generalize (w.alloc (.cells #[.int .i64 x, .int .i64 y, .int .i64 u, .int .i64 v, .int .i64 h, .int .i64 c] 28)).alloc (.cells #[] 25) = W0 at *
  have AN0 := Lib.hid (Below.refl W0.heap.size W0)
  refine (T0.out W0).mono ?_
  rintro e V1 ⟨rfl, hb1⟩
  have AN1 := Lib.hid (AN0.out.trans (hb1.mono AN0.out.size))
  clear hb1 AN0
  have m0_ : V1.cell? ⟨w.heap.size, 0, none⟩ = some (.int .i64 x) := (S0.out.old AN1.out).cell 0
  have m1_ : V1.cell? ⟨w.heap.size, 1, none⟩ = some (.int .i64 y) := (S0.out.old AN1.out).cell 1
  have m2_ : V1.cell? ⟨w.heap.size, 2, none⟩ = some (.int .i64 u) := (S0.out.old AN1.out).cell 2
  have m3_ : V1.cell? ⟨w.heap.size, 3, none⟩ = some (.int .i64 v) := (S0.out.old AN1.out).cell 3
  have m4_ : V1.cell? ⟨w.heap.size, 4, none⟩ = some (.int .i64 h) := (S0.out.old AN1.out).cell 4
  have m5_ : V1.cell? ⟨w.heap.size, 5, none⟩ = some (.int .i64 c) := (S0.out.old AN1.out).cell 5
  go_wp2_with fail
  clear m0_ m1_ m2_ m3_ m4_ m5_
  refine (T1.out V1).mono ?_
  rintro e w' ⟨rfl, rfl⟩
  have m0_ : V1.cell? ⟨w.heap.size, 0, none⟩ = some (.int .i64 x) := (S0.out.old AN1.out).cell 0
  have m1_ : V1.cell? ⟨w.heap.size, 1, none⟩ = some (.int .i64 y) := (S0.out.old AN1.out).cell 1
  have m2_ : V1.cell? ⟨w.heap.size, 2, none⟩ = some (.int .i64 u) := (S0.out.old AN1.out).cell 2
  have m3_ : V1.cell? ⟨w.heap.size, 3, none⟩ = some (.int .i64 v) := (S0.out.old AN1.out).cell 3
  have m4_ : V1.cell? ⟨w.heap.size, 4, none⟩ = some (.int .i64 h) := (S0.out.old AN1.out).cell 4
  have m5_ : V1.cell? ⟨w.heap.size, 5, none⟩ = some (.int .i64 c) := (S0.out.old AN1.out).cell 5
  go_wp2_with fail
  clear m0_ m1_ m2_ m3_ m4_ m5_
  refine (T2.out V1).mono ?_
  rintro e w' ⟨rfl, rfl⟩
  have HB0 := Lib.hid (AN1.out.mono HZ0.out)
  have OW1 := Lib.hid (own_.own_below OW0.out AN1.out)
  have hS0 := S0.out.1
  have HS1 := Lib.hid hS0
  clear OW0 AN1 hS0
  have MC := Lib.hid (fun (wr : World) (hb : Below (w.heap.size + 1) W0 wr) (i : Nat) => (hb.cell (p := ⟨w.heap.size, i, none⟩) (Nat.lt_succ_self _)).trans (S0.out.cell i))
  generalize V1 = V at *
  go_wp2_with fail
  go_loopw [8, 9] (fun r t wr => ∃ k : Nat, k ≤ M + 1 ∧ t = .int .i64 k ∧ wr.ownsRow (w.heap.size + 1) 25 2 r (cpN (ceX x u s) (ceX y v s) k) (cellsI (cp (ceX x u s) (ceX y v s) k)) ∧ Below (w.heap.size + 1) W0 wr ∧ ∀ i, i < k → okT x y u v i = true) (fun _ t _ => M + 1 - (intOf t).toNat)
  case atStart => exact ⟨0, by omega, rfl, OW1.out, HB0.out, fun i hi => absurd hi (Nat.not_lt_zero i)⟩
  case round =>
    obtain ⟨k, hk, rfl, hown, hb, hall⟩ := hrel
    have HO := Lib.hid hown
    have HB := Lib.hid hb
    have HAL := Lib.hid hall
    clear hown hb hall HB0 OW1
    by_cases hlt : k < M + 1
    case neg =>
      obtain rfl : k = M + 1 := by omega
      have hge : ¬ ((M + 1 : Nat) : Int) ≤ (M : Int) := by omega
      have HE := Lib.hid (HG.out HAL.out)
      have HO2 := Lib.hid (own_.own_base HO.out (Nat.le_succ w.heap.size))
      have BX := Lib.hid (HS1.out.trans (HB.out.mono (Nat.le_succ w.heap.size)))
      go_wp2_with fail
      go_ret2
      exact ⟨_, by rw [HE.out.1]; rfl, by rw [HE.out.2.1, HE.out.2.2]; exact HO2.out, BX.out⟩
    have hlt2 : (k : Int) ≤ (M : Int) := by omega
    obtain ⟨A8, c8, rfl⟩ := own_sliceZ HO.out
    have HKA := Lib.hid (HA.out k wr (by omega))
    have HW := Lib.hid (fun W => show Calls Try.prog 53 #[.agg #[.int .i64 (x + u * (k : Int)), .int .i64 (y + v * (k : Int))]] W (fun e w' => e = .returned (.bool (okT x y u v k)) ∧ Below W.heap.size W w') from poss.good7 _ _ W)
    have HFX := Lib.hid (show ceX x u s k = (x + u * (k : Int)) / s from rfl)
    have HFY := Lib.hid (show ceX y v s k = (y + v * (k : Int)) / s from rfl)
    have HOK := Lib.hid (fun h => ok_at (x := x) (y := y) (u := u) (v := v) (k := k) h)
    have HN := Lib.hid (show okT x y u v k = true → ∀ i, i < k + 1 → okT x y u v i = true from fun h i hi => by
      by_cases e : i = k
      · rw [e]; exact h
      · exact HAL.out i (by omega))
    have HFK := Lib.hid (fun e => HF.out k (by omega) e)
    have hN60 := cpN_le (ceX x u s) (ceX y v s) k
    generalize x + u * (k : Int) = X at *
    generalize y + v * (k : Int) = Y at *
    have m0_ : wr.cell? ⟨w.heap.size, 0, none⟩ = some (.int .i64 x) := MC.out wr HB.out 0
    have m1_ : wr.cell? ⟨w.heap.size, 1, none⟩ = some (.int .i64 y) := MC.out wr HB.out 1
    have m2_ : wr.cell? ⟨w.heap.size, 2, none⟩ = some (.int .i64 u) := MC.out wr HB.out 2
    have m3_ : wr.cell? ⟨w.heap.size, 3, none⟩ = some (.int .i64 v) := MC.out wr HB.out 3
    have m4_ : wr.cell? ⟨w.heap.size, 4, none⟩ = some (.int .i64 h) := MC.out wr HB.out 4
    have m5_ : wr.cell? ⟨w.heap.size, 5, none⟩ = some (.int .i64 c) := MC.out wr HB.out 5
    go_wp2_with fail
    clear m0_ m1_ m2_ m3_ m4_ m5_
    refine HKA.out.mono ?_
    rintro e V1 ⟨rfl, hb1⟩
    have O1 := Lib.hid (own_.own_below HO.out hb1)
    have B1 := Lib.hid (below_from HB.out HZ0.out hb1)
    clear hb1 HKA HO HB
    have SX := Lib.hid (newS 25 #[.int .i64 X, .int .i64 Y] V1)
    have O2 := Lib.hid (own_.own_below O1.out SX.out.1)
    have B2 := Lib.hid (below_from B1.out HZ0.out SX.out.1)
    clear O1 B1
    go_upto_region 8 with fail
    generalize V1.alloc (.cells #[.int .i64 X, .int .i64 Y] 25) = V2 at *
    have x0 : V2.cell? ⟨V1.heap.size, 0, none⟩ = some (.int .i64 X) := SX.out.cell 0
    have x1 : V2.cell? ⟨V1.heap.size, 1, none⟩ = some (.int .i64 Y) := SX.out.cell 1
    go_wp2_with fail
    clear x0 x1
    refine (HW.out V2).mono ?_
    rintro e V3 ⟨rfl, hb3⟩
    have O3 := Lib.hid (own_.own_below O2.out hb3)
    have B3 := Lib.hid (below_from B2.out HZ0.out hb3)
    have S3 := Lib.hid (SX.out.old hb3)
    clear hb3 O2 B2 SX HW
    cases hok : okT x y u v k
    case false =>
      have HE := Lib.hid (HFK.out hok)
      have OX := Lib.hid (own_.own_base (own_emptyZ V3 25 2) (show w.heap.size ≤ V3.heap.size from Nat.le_trans (Nat.le_succ _) (Nat.le_trans HZ0.out B3.out.size)))
      have BX := Lib.hid ((HS1.out.trans (B3.out.mono (Nat.le_succ w.heap.size))).alloc (show w.heap.size ≤ V3.heap.size from Nat.le_trans (Nat.le_succ _) (Nat.le_trans HZ0.out B3.out.size)) (.cells #[] 25))
      go_wp2_with fail
      go_ret2
      exact ⟨.slice (some ⟨V3.heap.size, 0, none⟩) 0 0, by rw [HE.out]; rfl, by rw [(pc_no HE.out).1, (pc_no HE.out).2]; exact OX.out, BX.out⟩
    have HN2 := Lib.hid (HN.out hok)
    obtain ⟨ok0, ok1⟩ := HOK.out hok
    clear hok HN HOK HFK HF HG HAL
    have z0 : (s == 0) = false := by simp; omega
    have z1 : ¬ s = 0 := by omega
    have q1 := quo_is ok0.1 ok0.2 hs1 hs2
    have q2 := quo_is ok1.1 ok1.2 hs1 hs2
    have e1 : IntKind.i64.wrap (X.tdiv s) = X / s := by rw [q1.1]; exact IntWalk.i64_in _ (by omega)
    have e2 : IntKind.i64.wrap (Y.tdiv s) = Y / s := by rw [q2.1]; exact IntWalk.i64_in _ (by omega)
    have e3 : IntKind.i64.wrap (X / s) = X / s := IntWalk.i64_in _ (by omega)
    have e4 : IntKind.i64.wrap (Y / s) = Y / s := IntWalk.i64_in _ (by omega)
    generalize X / s = qx at *
    generalize Y / s = qy at *
    go_upto_region 10 with fail
    have HS := Lib.hid (show V3.drew.cell? ⟨V1.heap.size, 0, none⟩ = some (.int .i64 X) ∧ V3.drew.cell? ⟨V1.heap.size, 1, none⟩ = some (.int .i64 Y) from ⟨S3.out.drew.cell 0, S3.out.drew.cell 1⟩)
    refine wp_region_tail (S := fun w' => w'.cell? ⟨V1.heap.size, 0, none⟩ = some (.int .i64 X) ∧ w'.cell? ⟨V1.heap.size, 1, none⟩ = some (.int .i64 Y)) 10 (by kernel_rfl) HS.out (fun hHeld => ?_)
    try simp only [Act.put]
    refine wpAnyE_take (i := 0) (v := ?vq0) rfl (by decide +kernel) (fun _ _ _ h => h) (Or.inl ⟨by rfl, ?hq0⟩) (by assumption) ?rq0
    case hq0 =>
      intro wS hSw
      obtain ⟨h0, h1⟩ := hSw
      go_simp
      try with_reducible rfl
    try simp only [Act.put]
    refine wpAnyE_take (i := 1) (v := ?vq1) rfl (by decide +kernel) (fun _ _ _ h => h) (Or.inl ⟨by rfl, ?hq1⟩) (by assumption) ?rq1
    case hq1 =>
      intro wS hSw
      obtain ⟨h0, h1⟩ := hSw
      go_simp
      try with_reducible rfl
    try simp only [Act.put]
    refine wpAnyE_take (i := 2) (v := ?vq2) rfl (by decide +kernel) (fun _ _ _ h => h) (Or.inl ⟨by rfl, ?hq2⟩) (by assumption) ?rq2
    case hq2 =>
      intro wS hSw
      obtain ⟨h0, h1⟩ := hSw
      go_simp
      try with_reducible rfl
    try simp only [Act.put]
    refine wpAnyE_take (i := 3) (v := ?vq3) rfl (by decide +kernel) (fun _ _ _ h => h) (Or.inl ⟨by rfl, ?hq3⟩) (by assumption) ?rq3
    case hq3 =>
      intro wS hSw
      obtain ⟨h0, h1⟩ := hSw
      go_simp
      try with_reducible rfl
    try simp only [Act.put]
    refine wpAnyE_take (i := 4) (v := ?vq4) rfl (by decide +kernel) (fun _ _ _ h => h) (Or.inl ⟨by rfl, ?hq4⟩) (by assumption) ?rq4
    case hq4 =>
      intro wS hSw
      obtain ⟨h0, h1⟩ := hSw
      go_simp
      try with_reducible rfl
    try simp only [Act.put]
    refine wpAnyE_take (i := 5) (v := ?vq5) rfl (by decide +kernel) (fun _ _ _ h => h) (Or.inl ⟨by rfl, ?hq5⟩) (by assumption) ?rq5
    case hq5 =>
      intro wS hSw
      obtain ⟨h0, h1⟩ := hSw
      go_simp
      try with_reducible rfl
    try simp only [Act.put]
    refine wpAnyE_take (i := 6) (v := ?vq6) rfl (by decide +kernel) (fun _ _ _ h => h) (Or.inl ⟨by rfl, ?hq6⟩) (by assumption) ?rq6
    case hq6 =>
      intro wS hSw
      obtain ⟨h0, h1⟩ := hSw
      go_simp
      try with_reducible rfl
    try simp only [Act.put]
    refine wpAnyE_take (i := 7) (v := ?vq7) rfl (by decide +kernel) (fun _ _ _ h => h) (Or.inl ⟨by rfl, ?hq7⟩) (by assumption) ?rq7
    case hq7 =>
      intro wS hSw
      obtain ⟨h0, h1⟩ := hSw
      go_simp
      try with_reducible rfl
    try simp only [Act.put]
    refine wpAnyE_take (i := 8) (v := ?vq8) rfl (by decide +kernel) (fun _ _ _ h => h) (Or.inl ⟨by rfl, ?hq8⟩) (by assumption) ?rq8
    case hq8 =>
      intro wS hSw
      obtain ⟨h0, h1⟩ := hSw
      go_simp
      try with_reducible rfl
    try simp only [Act.put]
    refine wpAnyE_ready (rs := [9]) (by kernel_rfl) (by simp) ?_
    refine AllReadyE.cons (i := 9) rfl (by decide) (fun K hK => ?_) AllReadyE.nil
    go_simp
    have D1 := Lib.hid (S3.out.drew.alloc (.cells #[.int .i64 0, .int .i64 0] 25))
    refine hK.out _ _ ⟨D1.out.cell 0, D1.out.cell 1⟩ (fun hHeld => ?_)
    clear hK K
    try simp only [Act.put]
    refine wpAnyE_ready (rs := [10]) (by kernel_rfl) (by simp) ?_
    refine AllReadyE.last (i := 10) rfl rfl (fun K hK => ?_)
    go_simp
    refine hK.out _ _ ?_
    clear hK K
    try simp only [Act.put]
    refine wpAnyE_done (by kernel_rfl) ?_ _
    try simp only [List.getElem_toArray, List.getElem_cons_succ, List.getElem_cons_zero, List.setIfInBounds_toArray, List.set_cons_succ, List.set_cons_zero]
    have SQ := Lib.hid ((newS 25 #[.int .i64 qx, .int .i64 qy] V3).drew)
    have O4 := Lib.hid (own_.own_below O3.out SQ.out.1)
    have B4 := Lib.hid (below_from B3.out HZ0.out SQ.out.1)
    clear O3 B3 S3 HS D1 hHeld
    generalize (V3.alloc (.cells #[.int .i64 qx, .int .i64 qy] 25)).drew = V4 at *
    go_upto_region 12 with fail
    have c0 : V4.cell? ⟨V3.heap.size, 0, none⟩ = some (.int .i64 qx) := SQ.out.cell 0
    have c1 : V4.cell? ⟨V3.heap.size, 1, none⟩ = some (.int .i64 qy) := SQ.out.cell 1
    by_cases hk0 : k = 0
    · have HC := Lib.hid (cp_new (f := ceX x u s) (g := ceX y v s) (k := k) (by rw [hk0]; exact fun h => absurd h.1 (Nat.lt_irrefl 0)))
      rw [HFX.out, HFY.out] at HC
      have hn0 : (cpN (ceX x u s) (ceX y v s) k) = 0 := by rw [hk0]; rfl
      generalize (cp (ceX x u s) (ceX y v s) k) = L at *
      generalize (cpN (ceX x u s) (ceX y v s) k) = N at *
      have g0 : ((N : Int) == 0) = true := by rw [hn0]; rfl
      have hN60 : N ≤ 60 := by omega
      clear hk0 hn0
      have c0' := fun d0 os => cell_regrown c0 d0 os
      have c1' := fun d0 os => cell_regrown c1 d0 os
      clear c0 c1
      refine wp_region_quiet_below (by kernel_rfl) (by kernel_rfl) ?_
      repeat (
        with_reducible refine wpQuiet_step (fun K hK => ?_)
        go_simp
        refine hK _ ?_; clear hK K)
      with_reducible refine wpQuiet_nil ?_
      intro _ hw'
      obtain ⟨⟨dq, osq⟩, hw''⟩ := hw'
      subst hw''
      have hbl := (below_regrown V4 dq osq)
      clear c0' c1'
      generalize Sort.grow (redrawn V4 dq) osq = V5 at *
      have O5 := Lib.hid (own_.own_below O4.out hbl)
      have B5 := Lib.hid (below_from B4.out HZ0.out hbl)
      have SQ5 := Lib.hid (SQ.out.old hbl)
      clear hbl O4 B4 SQ
      have c0 : V5.cell? ⟨V3.heap.size, 0, none⟩ = some (.int .i64 qx) := SQ5.out.cell 0
      have c1 : V5.cell? ⟨V3.heap.size, 1, none⟩ = some (.int .i64 qy) := SQ5.out.cell 1
      have hP5 : w.heap.size + 1 ≤ V5.heap.size := Nat.le_trans HZ0.out B5.out.size
      go_wp2_with (at_builtin; refine wpList_append_own _ rfl (.tmp 62) (.tmp 64) 43 rfl (w.heap.size + 1) 25 j0 (.agg #[.int .i64 0, .int .i64 0]) 2 16 Try.underlying43 hj hy0 hy1 hy2 rfl (by decide) _ N (cellsI L) rfl (O5.out.alloc _) ⟨V5.heap.size, 0, none⟩ 1 1 [.int .i64 qx, .int .i64 qy] rfl rfl (cells_new _ _ #[.int .i64 qx, .int .i64 qy]) (two_cells _ _) (by unfold maxLen; omega) (by omega) (by rw [World.size_alloc]; omega) ?_; intro v' w9 hown' hgrow hnil)
      have O9 := Lib.hid (own_growP hown')
      have B9 := Lib.hid (own_.below_append B5.out O5.out hP5 hgrow)
      clear hown' hgrow hnil c0 c1 hP5
      go_wp2_with fail
      go_roundw
      case rel => exact ⟨k + 1, by omega, by go_num, by rw [HC.out.1, HC.out.2]; exact O9.out, B9.out, HN2.out⟩
      case measure => simp [intOf]; omega
    · obtain ⟨j, hjk⟩ : ∃ j, j + 1 = k := ⟨k - 1, by omega⟩
      have hkj : k - 1 = j := by omega
      have hpos := cpN_pos (ceX x u s) (ceX y v s) j
      rw [hjk] at hpos
      obtain ⟨g8, rfl⟩ := own_some O4.out hpos
      obtain ⟨N1, hN1⟩ : ∃ N1, N1 + 1 = (cpN (ceX x u s) (ceX y v s) k) := ⟨(cpN (ceX x u s) (ceX y v s) k) - 1, by omega⟩
      have hlc := last_cell (F := ceX x u s) (G := ceX y v s) (k := j) (N := N1) (by rw [hjk]; exact O4.out) (by rw [hjk]; exact hN1)
      obtain ⟨l0, l1⟩ := hlc
      have HCN := Lib.hid (fun h => cp_new (f := ceX x u s) (g := ceX y v s) (k := k) h)
      have HCS := Lib.hid (fun h => cp_same (f := ceX x u s) (g := ceX y v s) (k := k) h)
      rw [HFX.out, HFY.out, hkj] at HCN HCS
      have hkp : 0 < k := by omega
      have HKP := Lib.hid hkp
      generalize (cp (ceX x u s) (ceX y v s) k) = L at *
      generalize (cpN (ceX x u s) (ceX y v s) k) = N at *
      generalize ceX x u s j = f1 at *
      generalize ceX y v s j = f2 at *
      have g0 : ((N : Int) == 0) = false := by simp; omega
      have e9 : IntKind.i64.wrap ((N : Int) - 1) = (N1 : Int) := by rw [IntWalk.i64_in _ (by omega)]; omega
      have hb9 : (N1 : Int) < (N : Int) := by omega
      have HN1 := Lib.hid hN1
      clear hk0 hjk hkj hpos hN1 hkp
      by_cases d0 : f1 = qx
      · rw [d0] at l0 HCN HCS
        have n0 : (qx != qx) = false := by simp
        have n3 : (qx == qx) = true := by simp
        clear d0
        by_cases d1 : f2 = qy
        · rw [d1] at l1 HCN HCS
          have HC := Lib.hid (HCS.out ⟨HKP.out, rfl, rfl⟩)
          have n1 : (qy != qy) = false := by simp
          clear HCS HCN d1
          have c0' := fun d0 os => cell_regrown c0 d0 os
          have c1' := fun d0 os => cell_regrown c1 d0 os
          have l0' := fun d0 os => cell_regrown l0 d0 os
          have l1' := fun d0 os => cell_regrown l1 d0 os
          clear c0 c1 l0 l1
          refine wp_region_quiet_below (by kernel_rfl) (by kernel_rfl) ?_
          repeat (
            with_reducible refine wpQuiet_step (fun K hK => ?_)
            go_simp
            refine hK _ ?_; clear hK K)
          with_reducible refine wpQuiet_nil ?_
          intro _ hw'
          obtain ⟨⟨dq, osq⟩, hw''⟩ := hw'
          subst hw''
          have hbl := (below_regrown V4 dq osq)
          clear c0' c1' l0' l1'
          generalize Sort.grow (redrawn V4 dq) osq = V5 at *
          have O5 := Lib.hid (own_.own_below O4.out hbl)
          have B5 := Lib.hid (below_from B4.out HZ0.out hbl)
          have SQ5 := Lib.hid (SQ.out.old hbl)
          clear hbl O4 B4 SQ
          go_wp2_with fail
          go_roundw
          case rel => exact ⟨k + 1, by omega, by go_num, by rw [HC.out.1, HC.out.2]; exact O5.out, B5.out, HN2.out⟩
          case measure => simp [intOf]; omega
        · have HC := Lib.hid (HCN.out (fun h => d1 h.2.2.symm))
          have n1 : (f2 != qy) = true := by simpa using d1
          have n2 : (f2 == qy) = false := by simpa using d1
          clear HCS HCN d1
          have c0' := fun d0 os => cell_regrown c0 d0 os
          have c1' := fun d0 os => cell_regrown c1 d0 os
          have l0' := fun d0 os => cell_regrown l0 d0 os
          have l1' := fun d0 os => cell_regrown l1 d0 os
          clear c0 c1 l0 l1
          refine wp_region_quiet_below (by kernel_rfl) (by kernel_rfl) ?_
          repeat (
            with_reducible refine wpQuiet_step (fun K hK => ?_)
            go_simp
            refine hK _ ?_; clear hK K)
          with_reducible refine wpQuiet_nil ?_
          intro _ hw'
          obtain ⟨⟨dq, osq⟩, hw''⟩ := hw'
          subst hw''
          have hbl := (below_regrown V4 dq osq)
          clear c0' c1' l0' l1'
          generalize Sort.grow (redrawn V4 dq) osq = V5 at *
          have O5 := Lib.hid (own_.own_below O4.out hbl)
          have B5 := Lib.hid (below_from B4.out HZ0.out hbl)
          have SQ5 := Lib.hid (SQ.out.old hbl)
          clear hbl O4 B4 SQ
          have c0 : V5.cell? ⟨V3.heap.size, 0, none⟩ = some (.int .i64 qx) := SQ5.out.cell 0
          have c1 : V5.cell? ⟨V3.heap.size, 1, none⟩ = some (.int .i64 qy) := SQ5.out.cell 1
          have hP5 : w.heap.size + 1 ≤ V5.heap.size := Nat.le_trans HZ0.out B5.out.size
          go_wp2_with (at_builtin; refine wpList_append_own _ rfl (.tmp 62) (.tmp 64) 43 rfl (w.heap.size + 1) 25 j0 (.agg #[.int .i64 0, .int .i64 0]) 2 16 Try.underlying43 hj hy0 hy1 hy2 rfl (by decide) _ N (cellsI L) rfl (O5.out.alloc _) ⟨V5.heap.size, 0, none⟩ 1 1 [.int .i64 qx, .int .i64 qy] rfl rfl (cells_new _ _ #[.int .i64 qx, .int .i64 qy]) (two_cells _ _) (by unfold maxLen; omega) (by omega) (by rw [World.size_alloc]; omega) ?_; intro v' w9 hown' hgrow hnil)
          have O9 := Lib.hid (own_growP hown')
          have B9 := Lib.hid (own_.below_append B5.out O5.out hP5 hgrow)
          clear hown' hgrow hnil c0 c1 hP5
          go_wp2_with fail
          go_roundw
          case rel => exact ⟨k + 1, by omega, by go_num, by rw [HC.out.1, HC.out.2]; exact O9.out, B9.out, HN2.out⟩
          case measure => simp [intOf]; omega
      · have HC := Lib.hid (HCN.out (fun h => d0 h.2.1.symm))
        have n1 : (f1 != qx) = true := by simpa using d0
        have n2 : (f1 == qx) = false := by simpa using d0
        clear HCS HCN d0
        have c0' := fun d0 os => cell_regrown c0 d0 os
        have c1' := fun d0 os => cell_regrown c1 d0 os
        have l0' := fun d0 os => cell_regrown l0 d0 os
        have l1' := fun d0 os => cell_regrown l1 d0 os
        clear c0 c1 l0 l1
        refine wp_region_quiet_below (by kernel_rfl) (by kernel_rfl) ?_
        repeat (
          with_reducible refine wpQuiet_step (fun K hK => ?_)
          go_simp
          refine hK _ ?_; clear hK K)
        with_reducible refine wpQuiet_nil ?_
        intro _ hw'
        obtain ⟨⟨dq, osq⟩, hw''⟩ := hw'
        subst hw''
        have hbl := (below_regrown V4 dq osq)
        clear c0' c1' l0' l1'
        generalize Sort.grow (redrawn V4 dq) osq = V5 at *
        have O5 := Lib.hid (own_.own_below O4.out hbl)
        have B5 := Lib.hid (below_from B4.out HZ0.out hbl)
        have SQ5 := Lib.hid (SQ.out.old hbl)
        clear hbl O4 B4 SQ
        have c0 : V5.cell? ⟨V3.heap.size, 0, none⟩ = some (.int .i64 qx) := SQ5.out.cell 0
        have c1 : V5.cell? ⟨V3.heap.size, 1, none⟩ = some (.int .i64 qy) := SQ5.out.cell 1
        have hP5 : w.heap.size + 1 ≤ V5.heap.size := Nat.le_trans HZ0.out B5.out.size
        go_wp2_with (at_builtin; refine wpList_append_own _ rfl (.tmp 62) (.tmp 64) 43 rfl (w.heap.size + 1) 25 j0 (.agg #[.int .i64 0, .int .i64 0]) 2 16 Try.underlying43 hj hy0 hy1 hy2 rfl (by decide) _ N (cellsI L) rfl (O5.out.alloc _) ⟨V5.heap.size, 0, none⟩ 1 1 [.int .i64 qx, .int .i64 qy] rfl rfl (cells_new _ _ #[.int .i64 qx, .int .i64 qy]) (two_cells _ _) (by unfold maxLen; omega) (by omega) (by rw [World.size_alloc]; omega) ?_; intro v' w9 hown' hgrow hnil)
        have O9 := Lib.hid (own_growP hown')
        have B9 := Lib.hid (own_.below_append B5.out O5.out hP5 hgrow)
        clear hown' hgrow hnil c0 c1 hP5
        go_wp2_with fail
        go_roundw
        case rel => exact ⟨k + 1, by omega, by go_num, by rw [HC.out.1, HC.out.2]; exact O9.out, B9.out, HN2.out⟩
        case measure => simp [intOf]; omega
end Go.Proofs.Ytinkkdgjpcnklaa.mote
