/- spec's sectors of chapter 17: l17Border, l17In, l17Double, l17Good. -/
import Derived.Test.YtkndfklbonkbiaaSctS
namespace Go.Proofs.Ytkndfklbonkbiaa.sctu
open Go.RowKit Go.Proofs.Ytkndfklbonkbiaa.ints Go.Proofs.Ytkndfklbonkbiaa.lst Go.Proofs.Ytkndfklbonkbiaa.in_ Go.Proofs.Ytkndfklbonkbiaa.ats Go.Proofs.Ytkndfklbonkbiaa.pos Go.Proofs.Ytkndfklbonkbiaa.sct Go.Proofs.Ytkndfklbonkbiaa.sctt Go.Proofs.Ytkndfklbonkbiaa.sctv Go.Proofs.Ytkndfklbonkbiaa.scti Go.Proofs.Ytkndfklbonkbiaa.sctj Go.Proofs.Ytkndfklbonkbiaa.sctb Go.Proofs.Ytkndfklbonkbiaa.scts

/-- The two cells of a corner, at a later world. -/
theorem corner {w WZ : World} {n k b o : Nat} {zs : List Int} (h : RdZ 2 w w.heap.size (some ⟨b, o, none⟩) n zs) (hk : k < n) (hb : Below w.heap.size w WZ) :
    (WZ.cell? ⟨b, o + k * 2, none⟩ = some (.int .i64 (cX zs k)) ∧ WZ.cell? ⟨b, o + k * 2 + 1, none⟩ = some (.int .i64 (cY zs k))) ∧ b < WZ.heap.size := by
  obtain ⟨b', o', e, hl, p0, p1⟩ := cells2 h hk
  simp only [Option.some.injEq, Addr.mk.injEq, and_true] at e
  obtain ⟨rfl, rfl⟩ := e
  exact ⟨⟨(hb.cell (p := ⟨b, o + k * 2, none⟩) hl).trans p0, (hb.cell (p := ⟨b, o + k * 2 + 1, none⟩) hl).trans p1⟩, Nat.lt_of_lt_of_le hl hb.size⟩
theorem mod_c1 (k n : Nat) : ((k : Int) + 1) % (n : Int) = (((k + 1) % n : Nat) : Int) := rfl
theorem mod_c2 (k n : Nat) : ((k : Int) + 1).tmod (n : Int) = (((k + 1) % n : Nat) : Int) := rfl
theorem mod_d1 (k n : Nat) : ((k : Int) + 2) % (n : Int) = (((k + 2) % n : Nat) : Int) := rfl
theorem mod_d2 (k n : Nat) : ((k : Int) + 2).tmod (n : Int) = (((k + 2) % n : Nat) : Int) := rfl
set_option maxRecDepth 100000 in
set_option maxHeartbeats 2000000 in
theorem border17 (d : Int) (zs : List Int) (px py : Int) (A : Option Addr) (n c : Nat) (w : World) (hn : n ≤ 1048576) (h0 : 0 < n) (hp : ∀ k, k < n → pB (cX zs k) (cY zs k) = true) (hq : pB px py = true) (h1 : RdZ 2 w w.heap.size A n zs) :
    Calls Try.prog 60 #[.agg #[.int .i64 d, .slice A n c], .agg #[.int .i64 px, .int .i64 py]] w fun e w' => e = .returned (.bool (brd (cX zs) (cY zs) n px py n)) ∧ Below w.heap.size w w' := by
  obtain ⟨b, o, rfl, hlb, -, -⟩ := cells2 h1 h0
  have S0 := Lib.hid ((newS 42 #[.int .i64 d, .slice (some ⟨b, o, none⟩) n c] w).alloc (.cells #[.int .i64 px, .int .i64 py] 31))
  have S1 := Lib.hid ((newS 42 #[.int .i64 d, .slice (some ⟨b, o, none⟩) n c] w).next 31 #[.int .i64 px, .int .i64 py])
  rw [World.size_alloc] at S1
  have CC := Lib.hid (fun k (hk : k < n) WZ (hb : Below w.heap.size w WZ) => corner h1 hk hb)
  generalize cX zs = X at *
  generalize cY zs = Y at *
  have HO := Lib.hid (fun k j (hk : k < n) (hj : j < n) => fun W d0 os => Calls.regrown_of (on17 (X k) (Y k) (X j) (Y j) px py (hp k hk) (hp j hj) hq (Sort.grow (redrawn W d0) os)))
  clear hp hq h1
  go_enter Try.func60, Try.ntmps60
  go_wp2_with fail
  generalize ((w.alloc (.cells #[.int .i64 d, .slice (some ⟨b, o, none⟩) n c] 42)).alloc (.cells #[.int .i64 px, .int .i64 py] 31)) = W0 at *
  go_loopw [6] (fun t wr => ∃ k : Nat, k ≤ n ∧ t = .int .i64 k ∧ Below W0.heap.size W0 wr ∧ brd X Y n px py k = false) (fun t _ => n - (intOf t).toNat)
  case atStart => exact ⟨0, Nat.zero_le _, rfl, Below.refl _ _, rfl⟩
  case round =>
    obtain ⟨k, hk, rfl, hb, hbr⟩ := hrel
    have HB := Lib.hid hb
    by_cases hlt : k < n
    · obtain ⟨j, hj⟩ : ∃ j, j = (k + 1) % n := ⟨_, rfl⟩
      have hjn : j < n := by rw [hj]; exact Nat.mod_lt _ (by omega)
      have hm : ((k : Int) + 1) % (n : Int) = (j : Int) := by rw [hj]; exact mod_c1 k n
      have hm2 : ((k : Int) + 1).tmod (n : Int) = (j : Int) := by rw [hj]; exact mod_c2 k n
      have hjn2 : (j : Int) < (n : Int) := by omega
      have hj0 : (0 : Int) ≤ (j : Int) := Int.natCast_nonneg _
      have hk0 : (0 : Int) ≤ (k : Int) := Int.natCast_nonneg _
      have hlt2 : (k : Int) < (n : Int) := by omega
      have hnk : ¬ n = 0 := by omega
      have hne : ¬ (n : Int) = 0 := by omega
      have wk : IntKind.i64.wrap ((k : Int) + 1) = (k : Int) + 1 := IntWalk.i64_in _ (by omega)
      have BW := Lib.hid (S0.out.1.trans (hb.mono S0.out.1.size))
      obtain ⟨⟨p0, p1⟩, lb⟩ := CC.out k hlt wr BW.out
      obtain ⟨⟨q0, q1⟩, lb2⟩ := CC.out j hjn wr BW.out
      have s0 : wr.cell? ⟨w.heap.size, 0, none⟩ = some (.int .i64 d) := (S0.out.old hb).cell 0
      have s1 : wr.cell? ⟨w.heap.size, 1, none⟩ = some (.slice (some ⟨b, o, none⟩) n c) := (S0.out.old hb).cell 1
      have t0 : wr.cell? ⟨w.heap.size + 1, 0, none⟩ = some (.int .i64 px) := (S1.out.old hb).cell 0
      have t1 : wr.cell? ⟨w.heap.size + 1, 1, none⟩ = some (.int .i64 py) := (S1.out.old hb).cell 1
      have HS := Lib.hid (show brd X Y n px py (k + 1) = onB (X k) (Y k) (X j) (Y j) px py from by rw [brd, hbr, Bool.false_or, hj])
      have HF := Lib.hid (fun h => brd_of (px := px) (py := py) (X := X) (Y := Y) (n := n) hlt h)
      rw [← hj] at HF
      have D := Lib.hid (HO.out k j hlt hjn)
      clear hb hbr hj lb2
      generalize onB (X k) (Y k) (X j) (Y j) px py = tb at *
      generalize X k = x at *
      generalize Y k = y at *
      generalize X j = u at *
      generalize Y j = v at *
      cases tb
      · go_wp2_with fail
        have p0' := fun d0 os => cell_regrown p0 d0 os
        have p1' := fun d0 os => cell_regrown p1 d0 os
        have q0' := fun d0 os => cell_regrown q0 d0 os
        have q1' := fun d0 os => cell_regrown q1 d0 os
        have s0' := fun d0 os => cell_regrown s0 d0 os
        have s1' := fun d0 os => cell_regrown s1 d0 os
        have t0' := fun d0 os => cell_regrown t0 d0 os
        have t1' := fun d0 os => cell_regrown t1 d0 os
        clear p0 p1 q0 q1 s0 s1 t0 t1
        refine wp_region_quiet_below (by kernel_rfl) (by kernel_rfl) ?_
        repeat (
          with_reducible refine wpQuiet_step (fun K hK => ?_)
          go_simp
          first
            | (refine hK _ ?_; clear hK K)
            | (apply Exists.intro
               refine ⟨fun _ => ?_, hK _ ?_⟩
               (first
                 | (go_at_call 97; with_reducible exact D.out _ _ _))
               clear hK K))
        with_reducible refine wpQuiet_nil ?_
        intro _ hw'
        obtain ⟨⟨dq, osq⟩, hw''⟩ := hw'
        subst hw''
        have hbl := (below_regrown wr dq osq)
        clear p0' p1' q0' q1' s0' s1' t0' t1'
        generalize Sort.grow (redrawn wr dq) osq = w3 at *
        have HB3 := Lib.hid (HB.out.trans (hbl.mono HB.out.size))
        have BW3 := Lib.hid (BW.out.trans (hbl.mono BW.out.size))
        clear hbl
        have HT := Lib.hid HS.out
        go_wp2_with fail
        go_roundw
        case rel => exact ⟨k + 1, by omega, by go_num, HB3.out, HT.out⟩
        case measure => simp [intOf]; omega
      · go_wp2_with fail
        have p0' := fun d0 os => cell_regrown p0 d0 os
        have p1' := fun d0 os => cell_regrown p1 d0 os
        have q0' := fun d0 os => cell_regrown q0 d0 os
        have q1' := fun d0 os => cell_regrown q1 d0 os
        have s0' := fun d0 os => cell_regrown s0 d0 os
        have s1' := fun d0 os => cell_regrown s1 d0 os
        have t0' := fun d0 os => cell_regrown t0 d0 os
        have t1' := fun d0 os => cell_regrown t1 d0 os
        clear p0 p1 q0 q1 s0 s1 t0 t1
        refine wp_region_quiet_below (by kernel_rfl) (by kernel_rfl) ?_
        repeat (
          with_reducible refine wpQuiet_step (fun K hK => ?_)
          go_simp
          first
            | (refine hK _ ?_; clear hK K)
            | (apply Exists.intro
               refine ⟨fun _ => ?_, hK _ ?_⟩
               (first
                 | (go_at_call 97; with_reducible exact D.out _ _ _))
               clear hK K))
        with_reducible refine wpQuiet_nil ?_
        intro _ hw'
        obtain ⟨⟨dq, osq⟩, hw''⟩ := hw'
        subst hw''
        have hbl := (below_regrown wr dq osq)
        clear p0' p1' q0' q1' s0' s1' t0' t1'
        generalize Sort.grow (redrawn wr dq) osq = w3 at *
        have HB3 := Lib.hid (HB.out.trans (hbl.mono HB.out.size))
        have BW3 := Lib.hid (BW.out.trans (hbl.mono BW.out.size))
        clear hbl
        have HT := Lib.hid (HF.out (by first | trivial | rfl))
        go_wp2_with fail
        go_ret
        exact ⟨by rw [HT.out]; rfl, BW3.out⟩
    · obtain rfl : k = n := by omega
      have HZ := Lib.hid hbr
      have BW := Lib.hid (S0.out.1.trans (hb.mono S0.out.1.size))
      clear hb hbr CC HO
      go_wp2_with fail
      go_ret
      exact ⟨by rw [HZ.out]; rfl, BW.out⟩

/-- Three places in new blocks. -/
theorem three_new (a b c : Array Value) (V : World) : AtS 31 a V (((V.alloc (.cells a 31)).alloc (.cells b 31)).alloc (.cells c 31)) V.heap.size ∧ AtS 31 b V (((V.alloc (.cells a 31)).alloc (.cells b 31)).alloc (.cells c 31)) (V.heap.size + 1) ∧ AtS 31 c V (((V.alloc (.cells a 31)).alloc (.cells b 31)).alloc (.cells c 31)) (V.heap.size + 1 + 1) := by
  have s0 := ((newS 31 a V).alloc (.cells b 31)).alloc (.cells c 31)
  have s1 := ((newS 31 a V).next 31 b).alloc (.cells c 31)
  have s2 := ((newS 31 a V).alloc (.cells b 31)).next 31 c
  rw [World.size_alloc] at s1
  rw [World.size_alloc, World.size_alloc] at s2
  exact ⟨s0, s1, s2⟩
theorem two_new (a b : Array Value) (V : World) : AtS 31 a V ((V.alloc (.cells a 31)).alloc (.cells b 31)) V.heap.size ∧ AtS 31 b V ((V.alloc (.cells a 31)).alloc (.cells b 31)) (V.heap.size + 1) := by
  have s0 := (newS 31 a V).alloc (.cells b 31)
  have s1 := (newS 31 a V).next 31 b
  rw [World.size_alloc] at s1
  exact ⟨s0, s1⟩
set_option maxRecDepth 100000 in
set_option maxHeartbeats 2000000 in
theorem in17 (d : Int) (zs : List Int) (px py : Int) (A : Option Addr) (n c : Nat) (w : World) (hn : n ≤ 1048576) (h0 : 0 < n) (hp : ∀ k, k < n → pB (cX zs k) (cY zs k) = true) (hq : pB px py = true) (h1 : RdZ 2 w w.heap.size A n zs) :
    Calls Try.prog 46 #[.agg #[.int .i64 d, .slice A n c], .agg #[.int .i64 px, .int .i64 py]] w fun e w' => e = .returned (.bool (inB (cX zs) (cY zs) n px py)) ∧ Below w.heap.size w w' := by
  obtain ⟨b, o, rfl, hlb, -, -⟩ := cells2 h1 h0
  have S0 := Lib.hid ((newS 42 #[.int .i64 d, .slice (some ⟨b, o, none⟩) n c] w).alloc (.cells #[.int .i64 px, .int .i64 py] 31))
  have S1 := Lib.hid ((newS 42 #[.int .i64 d, .slice (some ⟨b, o, none⟩) n c] w).next 31 #[.int .i64 px, .int .i64 py])
  rw [World.size_alloc] at S1
  have CC := Lib.hid (fun k (hk : k < n) WZ (hb : Below w.heap.size w WZ) => corner h1 hk hb)
  have C0 := Lib.hid (fun W (hb : Below w.heap.size w W) => border17 d zs px py (some ⟨b, o, none⟩) n c W hn h0 hp hq (h1.next hb))
  generalize cX zs = X at *
  generalize cY zs = Y at *
  have HX := Lib.hid (fun k j (hk : k < n) (hj : j < n) (w : World) => cross17 (X k) (Y k) (X j) (Y j) px py (hp k hk) (hp j hj) hq w)
  clear hp hq h1
  cases hbr : brd X Y n px py n
  case true =>
    have HV := Lib.hid (show inB X Y n px py = true by unfold inB; rw [hbr]; rfl)
    rw [hbr] at C0
    clear hbr HX CC
    go_enter Try.func46, Try.ntmps46
    go_wp2_with fail
    generalize ((w.alloc (.cells #[.int .i64 d, .slice (some ⟨b, o, none⟩) n c] 42)).alloc (.cells #[.int .i64 px, .int .i64 py] 31)) = W0 at *
    refine (C0.out W0 S0.out.1).mono ?_
    rintro e V ⟨rfl, hb⟩
    have BX := Lib.hid (S0.out.1.trans (hb.mono S0.out.1.size))
    clear hb
    go_wp2_with fail
    go_ret
    exact ⟨by rw [HV.out]; rfl, BX.out⟩
  have HV := Lib.hid (show inB X Y n px py = par X Y n px py n by unfold inB; rw [hbr]; rfl)
  rw [hbr] at C0
  clear hbr
  go_enter Try.func46, Try.ntmps46
  go_wp2_with fail
  generalize ((w.alloc (.cells #[.int .i64 d, .slice (some ⟨b, o, none⟩) n c] 42)).alloc (.cells #[.int .i64 px, .int .i64 py] 31)) = W0 at *
  refine (C0.out W0 S0.out.1).mono ?_
  rintro e V ⟨rfl, hb0⟩
  have AV := Lib.hid hb0
  clear hb0 C0
  have s0 : V.cell? ⟨w.heap.size, 0, none⟩ = some (.int .i64 d) := (S0.out.old AV.out).cell 0
  have s1 : V.cell? ⟨w.heap.size, 1, none⟩ = some (.slice (some ⟨b, o, none⟩) n c) := (S0.out.old AV.out).cell 1
  have t0 : V.cell? ⟨w.heap.size + 1, 0, none⟩ = some (.int .i64 px) := (S1.out.old AV.out).cell 0
  have t1 : V.cell? ⟨w.heap.size + 1, 1, none⟩ = some (.int .i64 py) := (S1.out.old AV.out).cell 1
  go_wp2_with fail
  clear s0 s1 t0 t1
  go_loopw [6, 7] (fun u t wr => ∃ k : Nat, k ≤ n ∧ t = .int .i64 k ∧ u = .bool (par X Y n px py k) ∧ Below W0.heap.size W0 wr) (fun _ t _ => n - (intOf t).toNat)
  case atStart => exact ⟨0, Nat.zero_le _, rfl, rfl, AV.out⟩
  case round =>
    obtain ⟨k, hk, rfl, rfl, hb⟩ := hrel
    have HB := Lib.hid hb
    by_cases hlt : k < n
    · obtain ⟨j, hj⟩ : ∃ j, j = (k + 1) % n := ⟨_, rfl⟩
      have hjn : j < n := by rw [hj]; exact Nat.mod_lt _ (by omega)
      have hm : ((k : Int) + 1) % (n : Int) = (j : Int) := by rw [hj]; exact mod_c1 k n
      have hm2 : ((k : Int) + 1).tmod (n : Int) = (j : Int) := by rw [hj]; exact mod_c2 k n
      have hjn2 : (j : Int) < (n : Int) := by omega
      have hj0 : (0 : Int) ≤ (j : Int) := Int.natCast_nonneg _
      have hk0 : (0 : Int) ≤ (k : Int) := Int.natCast_nonneg _
      have hlt2 : (k : Int) < (n : Int) := by omega
      have hnk : ¬ n = 0 := by omega
      have hne : ¬ (n : Int) = 0 := by omega
      have wk : IntKind.i64.wrap ((k : Int) + 1) = (k : Int) + 1 := IntWalk.i64_in _ (by omega)
      have BW := Lib.hid (S0.out.1.trans (hb.mono S0.out.1.size))
      have HS := Lib.hid (show par X Y n px py (k + 1) = (par X Y n px py k != tog (X k) (Y k) (X j) (Y j) px py) from by rw [par, hj])
      have D := Lib.hid (HX.out k j hlt hjn)
      have CS := Lib.hid (show ∀ WZ : World, Below wr.heap.size wr WZ → WZ.cell? ⟨w.heap.size, 1, none⟩ = some (.slice (some ⟨b, o, none⟩) n c) ∧ WZ.cell? ⟨b, o + k * 2, none⟩ = some (.int .i64 (X k)) ∧ WZ.cell? ⟨b, o + k * 2 + 1, none⟩ = some (.int .i64 (Y k)) ∧ WZ.cell? ⟨b, o + j * 2, none⟩ = some (.int .i64 (X j)) ∧ WZ.cell? ⟨b, o + j * 2 + 1, none⟩ = some (.int .i64 (Y j)) from fun WZ hz =>
        have hw := BW.out.trans (hz.mono BW.out.size)
        ⟨(S0.out.old (HB.out.trans (hz.mono HB.out.size))).cell 1, (CC.out k hlt WZ hw).1.1, (CC.out k hlt WZ hw).1.2, (CC.out j hjn WZ hw).1.1, (CC.out j hjn WZ hw).1.2⟩)
      have lb : b < wr.heap.size := (CC.out k hlt wr BW.out).2
      have lw : w.heap.size < wr.heap.size := Nat.lt_of_lt_of_le S0.out.2.2.1 hb.size
      clear hb hj
      generalize X k = x at *
      generalize Y k = y at *
      generalize X j = u at *
      generalize Y j = v at *
      unfold tog at HS
      generalize cr x y u v px py = c0 at *
      have N1 := Lib.hid (two_new #[.int .i64 x, .int .i64 y] #[.int .i64 u, .int .i64 v] wr)
      have N2 := Lib.hid (two_new #[.int .i64 u, .int .i64 v] #[.int .i64 x, .int .i64 y] wr)
      go_upto_region 8 with fail
      go_cut [8, 9] from 22 to 34 (fun p q wz => ∃ g h : Nat, p = .pointer (some ⟨g, 0, none⟩) ∧ q = .pointer (some ⟨h, 0, none⟩) ∧ AtS 31 #[.int .i64 x, .int .i64 y] wr wz g ∧ AtS 31 #[.int .i64 u, .int .i64 v] wr wz h)
      case first =>
        go_region_held3 (fun w' => w'.cell? ⟨w.heap.size, 1, none⟩ = some (.slice (some ⟨b, o, none⟩) n c) ∧ w'.cell? ⟨b, o + k * 2, none⟩ = some (.int .i64 x) ∧ w'.cell? ⟨b, o + k * 2 + 1, none⟩ = some (.int .i64 y) ∧ w'.cell? ⟨b, o + j * 2, none⟩ = some (.int .i64 u) ∧ w'.cell? ⟨b, o + j * 2 + 1, none⟩ = some (.int .i64 v)) (first
          | exact CS.out _ (Below.refl wr.heap.size wr).drew
          | exact CS.out _ ((Below.refl wr.heap.size wr).alloc (Nat.le_refl _) _).drew
          | exact CS.out _ (((Below.refl wr.heap.size wr).alloc (Nat.le_refl _) _).alloc (by rw [World.size_alloc]; omega) _).drew
          | go_keep) (fail)
        all_goals (
          go_wp2_with fail
          go_meet
          first
          | exact ⟨_, _, rfl, rfl, N1.out.1.drew, N1.out.2.drew⟩
          | exact ⟨_, _, rfl, rfl, N2.out.2.drew, N2.out.1.drew⟩)
      case rest =>
        obtain ⟨g, h, rfl, rfl, a1, a2⟩ := hcut
        have A1 := Lib.hid a1
        have A2 := Lib.hid a2
        have HBc := Lib.hid (HB.out.trans (a1.1.mono HB.out.size))
        clear a1 a2 N1 N2 CS
        by_cases h1 : py < y
        · by_cases h2 : py < v
          · have a0 : wc.cell? ⟨g, 0, none⟩ = some (.int .i64 x) := A1.out.cell 0
            have a1 : wc.cell? ⟨g, 1, none⟩ = some (.int .i64 y) := A1.out.cell 1
            have d0 : wc.cell? ⟨h, 0, none⟩ = some (.int .i64 u) := A2.out.cell 0
            have d1 : wc.cell? ⟨h, 1, none⟩ = some (.int .i64 v) := A2.out.cell 1
            have t0 : wc.cell? ⟨w.heap.size + 1, 0, none⟩ = some (.int .i64 px) := (S1.out.old HBc.out).cell 0
            have t1 : wc.cell? ⟨w.heap.size + 1, 1, none⟩ = some (.int .i64 py) := (S1.out.old HBc.out).cell 1
            have e1 : decide (py < y) = true := decide_eq_true (by omega)
            have e2 : decide (py < v) = true := decide_eq_true (by omega)
            rw [e1, e2] at HS
            have HT := Lib.hid HS.out
            go_wp2_with fail
            go_roundw
            case rel => exact ⟨k + 1, by omega, by go_num, by rw [HT.out]; cases par X Y n px py k <;> rfl, HBc.out⟩
            case measure => simp [intOf]; omega
          · have a0 : wc.cell? ⟨g, 0, none⟩ = some (.int .i64 x) := A1.out.cell 0
            have a1 : wc.cell? ⟨g, 1, none⟩ = some (.int .i64 y) := A1.out.cell 1
            have d0 : wc.cell? ⟨h, 0, none⟩ = some (.int .i64 u) := A2.out.cell 0
            have d1 : wc.cell? ⟨h, 1, none⟩ = some (.int .i64 v) := A2.out.cell 1
            have t0 : wc.cell? ⟨w.heap.size + 1, 0, none⟩ = some (.int .i64 px) := (S1.out.old HBc.out).cell 0
            have t1 : wc.cell? ⟨w.heap.size + 1, 1, none⟩ = some (.int .i64 py) := (S1.out.old HBc.out).cell 1
            have e1 : decide (py < y) = true := decide_eq_true (by omega)
            have e2 : decide (py < v) = false := decide_eq_false (by omega)
            have e3 : decide (y < v) = false := decide_eq_false (by omega)
            have e4 : ¬ y < v := by omega
            rw [e1, e2, e3] at HS
            go_wp2_with fail
            clear a0 a1 d0 d1 t0 t1
            refine (D.out wc).mono ?_
            rintro e V4 ⟨rfl, hb4⟩
            have HB4 := Lib.hid (HBc.out.trans (hb4.mono HBc.out.size))
            have A3 := Lib.hid (A1.out.old hb4)
            have A4 := Lib.hid (A2.out.old hb4)
            have T4 := Lib.hid (S1.out.old HB4.out)
            clear hb4
            have a0 : V4.cell? ⟨g, 0, none⟩ = some (.int .i64 x) := A3.out.cell 0
            have a1 : V4.cell? ⟨g, 1, none⟩ = some (.int .i64 y) := A3.out.cell 1
            have d0 : V4.cell? ⟨h, 0, none⟩ = some (.int .i64 u) := A4.out.cell 0
            have d1 : V4.cell? ⟨h, 1, none⟩ = some (.int .i64 v) := A4.out.cell 1
            have t0 : V4.cell? ⟨w.heap.size + 1, 0, none⟩ = some (.int .i64 px) := T4.out.cell 0
            have t1 : V4.cell? ⟨w.heap.size + 1, 1, none⟩ = some (.int .i64 py) := T4.out.cell 1
            by_cases hc : 0 < c0
            · have e5 : decide (0 < c0) = true := decide_eq_true hc
              rw [e5] at HS
              have HT := Lib.hid HS.out
              go_wp2_with fail
              go_roundw
              case rel => exact ⟨k + 1, by omega, by go_num, by rw [HT.out]; cases par X Y n px py k <;> rfl, HB4.out⟩
              case measure => simp [intOf]; omega
            · have e5 : decide (0 < c0) = false := decide_eq_false hc
              rw [e5] at HS
              have HT := Lib.hid HS.out
              go_wp2_with fail
              go_roundw
              case rel => exact ⟨k + 1, by omega, by go_num, by rw [HT.out]; cases par X Y n px py k <;> rfl, HB4.out⟩
              case measure => simp [intOf]; omega
        · by_cases h2 : py < v
          · have a0 : wc.cell? ⟨g, 0, none⟩ = some (.int .i64 x) := A1.out.cell 0
            have a1 : wc.cell? ⟨g, 1, none⟩ = some (.int .i64 y) := A1.out.cell 1
            have d0 : wc.cell? ⟨h, 0, none⟩ = some (.int .i64 u) := A2.out.cell 0
            have d1 : wc.cell? ⟨h, 1, none⟩ = some (.int .i64 v) := A2.out.cell 1
            have t0 : wc.cell? ⟨w.heap.size + 1, 0, none⟩ = some (.int .i64 px) := (S1.out.old HBc.out).cell 0
            have t1 : wc.cell? ⟨w.heap.size + 1, 1, none⟩ = some (.int .i64 py) := (S1.out.old HBc.out).cell 1
            have e1 : decide (py < y) = false := decide_eq_false (by omega)
            have e2 : decide (py < v) = true := decide_eq_true (by omega)
            have e3 : decide (y < v) = true := decide_eq_true (by omega)
            have e4 : y < v := by omega
            rw [e1, e2, e3] at HS
            go_wp2_with fail
            clear a0 a1 d0 d1 t0 t1
            refine (D.out wc).mono ?_
            rintro e V4 ⟨rfl, hb4⟩
            have HB4 := Lib.hid (HBc.out.trans (hb4.mono HBc.out.size))
            have A3 := Lib.hid (A1.out.old hb4)
            have A4 := Lib.hid (A2.out.old hb4)
            have T4 := Lib.hid (S1.out.old HB4.out)
            clear hb4
            have a0 : V4.cell? ⟨g, 0, none⟩ = some (.int .i64 x) := A3.out.cell 0
            have a1 : V4.cell? ⟨g, 1, none⟩ = some (.int .i64 y) := A3.out.cell 1
            have d0 : V4.cell? ⟨h, 0, none⟩ = some (.int .i64 u) := A4.out.cell 0
            have d1 : V4.cell? ⟨h, 1, none⟩ = some (.int .i64 v) := A4.out.cell 1
            have t0 : V4.cell? ⟨w.heap.size + 1, 0, none⟩ = some (.int .i64 px) := T4.out.cell 0
            have t1 : V4.cell? ⟨w.heap.size + 1, 1, none⟩ = some (.int .i64 py) := T4.out.cell 1
            by_cases hc : 0 < c0
            · have e5 : decide (0 < c0) = true := decide_eq_true hc
              rw [e5] at HS
              have HT := Lib.hid HS.out
              go_wp2_with fail
              go_roundw
              case rel => exact ⟨k + 1, by omega, by go_num, by rw [HT.out]; cases par X Y n px py k <;> rfl, HB4.out⟩
              case measure => simp [intOf]; omega
            · have e5 : decide (0 < c0) = false := decide_eq_false hc
              rw [e5] at HS
              have HT := Lib.hid HS.out
              go_wp2_with fail
              go_roundw
              case rel => exact ⟨k + 1, by omega, by go_num, by rw [HT.out]; cases par X Y n px py k <;> rfl, HB4.out⟩
              case measure => simp [intOf]; omega
          · have a0 : wc.cell? ⟨g, 0, none⟩ = some (.int .i64 x) := A1.out.cell 0
            have a1 : wc.cell? ⟨g, 1, none⟩ = some (.int .i64 y) := A1.out.cell 1
            have d0 : wc.cell? ⟨h, 0, none⟩ = some (.int .i64 u) := A2.out.cell 0
            have d1 : wc.cell? ⟨h, 1, none⟩ = some (.int .i64 v) := A2.out.cell 1
            have t0 : wc.cell? ⟨w.heap.size + 1, 0, none⟩ = some (.int .i64 px) := (S1.out.old HBc.out).cell 0
            have t1 : wc.cell? ⟨w.heap.size + 1, 1, none⟩ = some (.int .i64 py) := (S1.out.old HBc.out).cell 1
            have e1 : decide (py < y) = false := decide_eq_false (by omega)
            have e2 : decide (py < v) = false := decide_eq_false (by omega)
            rw [e1, e2] at HS
            have HT := Lib.hid HS.out
            go_wp2_with fail
            go_roundw
            case rel => exact ⟨k + 1, by omega, by go_num, by rw [HT.out]; cases par X Y n px py k <;> rfl, HBc.out⟩
            case measure => simp [intOf]; omega
    · obtain rfl : k = n := by omega
      have BW := Lib.hid (S0.out.1.trans (hb.mono S0.out.1.size))
      clear hb CC HX
      go_wp2_with fail
      go_ret
      exact ⟨by rw [HV.out]; rfl, BW.out⟩

end Go.Proofs.Ytkndfklbonkbiaa.sctu
