/- spec's l17Good and IsValidSector. -/
import Derived.Test.YtkndfklbonkbiaaSctU
namespace Go.Proofs.Ytkndfklbonkbiaa.sctw
open Go.RowKit Go.Proofs.Ytkndfklbonkbiaa.ints Go.Proofs.Ytkndfklbonkbiaa.lst Go.Proofs.Ytkndfklbonkbiaa.in_ Go.Proofs.Ytkndfklbonkbiaa.ats Go.Proofs.Ytkndfklbonkbiaa.pos Go.Proofs.Ytkndfklbonkbiaa.sct Go.Proofs.Ytkndfklbonkbiaa.sctt Go.Proofs.Ytkndfklbonkbiaa.sctv Go.Proofs.Ytkndfklbonkbiaa.scti Go.Proofs.Ytkndfklbonkbiaa.sctj Go.Proofs.Ytkndfklbonkbiaa.sctb Go.Proofs.Ytkndfklbonkbiaa.scts Go.Proofs.Ytkndfklbonkbiaa.sctu

set_option maxRecDepth 100000 in
set_option maxHeartbeats 2000000 in
theorem co_of {X Y : Nat → Int} {i : Nat} (h1 : pB (X i) (Y i) = true) (h2 : ∀ k, k < i → ¬ (X k = X i ∧ Y k = Y i)) : coB X Y i = true := by
  unfold coB
  rw [h1, decide_eq_true h2]; rfl
theorem co_no1 {X Y : Nat → Int} {i : Nat} (h1 : pB (X i) (Y i) = false) : coB X Y i = false := by
  unfold coB
  rw [h1]; rfl
theorem co_no2 {X Y : Nat → Int} {i k : Nat} (hk : k < i) (h : X k = X i ∧ Y k = Y i) : coB X Y i = false := by
  unfold coB
  rw [decide_eq_false (p := ∀ k, k < i → ¬ (X k = X i ∧ Y k = Y i)) (fun hh => hh k hk h), Bool.and_false]
set_option maxRecDepth 100000 in
set_option maxHeartbeats 2000000 in
theorem good17 (d : Int) (zs : List Int) (A : Option Addr) (n c : Nat) (w : World) (hn : n ≤ 1048576) (h1 : RdZ 2 w w.heap.size A n zs) :
    Calls Try.prog 55 #[.agg #[.int .i64 d, .slice A n c]] w fun e w' => e = .returned (.bool (seB d (cX zs) (cY zs) n)) ∧ Below w.heap.size w w' := by
  have S0 := Lib.hid (newS 42 #[.int .i64 d, .slice A n c] w)
  have I1 := Lib.hid (fun w => l1In d 1 99 w)
  have I2 := Lib.hid (fun w => l1In (n : Int) 3 8 w)
  unfold seB
  cases hd : isIn d 1 99
  · rw [hd] at I1
    clear hd h1 I2
    go_enter Try.func55, Try.ntmps55
    go_wp2_with fail
    refine (I1.out _).mono ?_
    rintro e w' ⟨rfl, rfl⟩
    go_wp2_with fail
    go_ret
    exact ⟨rfl, S0.out.1⟩
  rw [hd] at I1
  cases hz : isIn (n : Int) 3 8
  · rw [hz] at I2
    clear hd hz h1
    go_enter Try.func55, Try.ntmps55
    go_wp2_with fail
    refine (I1.out _).mono ?_
    rintro e w' ⟨rfl, rfl⟩
    go_wp2_with fail
    refine (I2.out _).mono ?_
    rintro e w' ⟨rfl, rfl⟩
    go_wp2_with fail
    go_ret
    exact ⟨rfl, S0.out.1⟩
  rw [hz] at I2
  have h38 : 3 ≤ (n : Int) ∧ (n : Int) ≤ 8 := of_decide_eq_true hz
  have h3 : 3 ≤ n := by omega
  have h8 : n ≤ 8 := by omega
  clear hd hz
  rw [Bool.true_and, Bool.true_and]
  obtain ⟨b, o, rfl, hlb, -, -⟩ := cells2 h1 (show 0 < n by omega)
  have CC := Lib.hid (fun k (hk : k < n) WZ (hb : Below w.heap.size w WZ) => corner h1 hk hb)
  generalize cX zs = X at *
  generalize cY zs = Y at *
  clear h1 h38
  have N1 := Lib.hid (fun i (hi : i < n) (h : coB X Y i = false) => bo_no1 (X := X) (Y := Y) hi h)
  have N2 := Lib.hid (fun i (hi : i < n) (h : neB X Y n i = false) => bo_no2 (X := X) (Y := Y) hi h)
  have N3 := Lib.hid (fun i k (hi : i < n) (hk : k < n) (hik : i + 2 ≤ k) (h : apB X Y n i k = false) => bo_no3 (X := X) (Y := Y) hi hk hik h)
  have G7 := Lib.hid (fun k w => poss.good7 (X k) (Y k) w)
  have HH3 := Lib.hid h3
  have HH8 := Lib.hid h8
  go_enter Try.func55, Try.ntmps55
  go_wp2_with fail
  generalize (w.alloc (.cells #[.int .i64 d, .slice (some ⟨b, o, none⟩) n c] 42)) = W0 at *
  refine (I1.out _).mono ?_
  rintro e w' ⟨rfl, rfl⟩
  go_wp2_with fail
  refine (I2.out _).mono ?_
  rintro e w' ⟨rfl, rfl⟩
  clear I1 I2
  go_wp2_with fail
  go_loopw [4] (fun t wr => ∃ i : Nat, i ≤ n ∧ t = .int .i64 i ∧ Below W0.heap.size W0 wr ∧ Hid (∀ k, k < i → coB X Y k = true)) (fun t _ => n - (intOf t).toNat)
  case atStart => exact ⟨0, Nat.zero_le _, rfl, Below.refl _ _, Lib.hid (fun k hk => absurd hk (Nat.not_lt_zero _))⟩
  case round =>
    obtain ⟨i, hi, rfl, hb, HCO⟩ := hrel
    have HB := Lib.hid hb
    by_cases hlt : i < n
    · have hlt2 : (i : Int) < (n : Int) := by omega
      have HLT := Lib.hid hlt
      have BW := Lib.hid (S0.out.1.trans (hb.mono S0.out.1.size))
      obtain ⟨⟨p0, p1⟩, lb⟩ := CC.out i hlt wr BW.out
      have s0 : wr.cell? ⟨w.heap.size, 0, none⟩ = some (.int .i64 d) := (S0.out.old hb).cell 0
      have s1 : wr.cell? ⟨w.heap.size, 1, none⟩ = some (.slice (some ⟨b, o, none⟩) n c) := (S0.out.old hb).cell 1
      have G := Lib.hid (fun w => G7.out i w)
      clear hb
      cases hpb : pB (X i) (Y i)
      · have HE := Lib.hid (N1.out i hlt (co_no1 hpb))
        rw [hpb] at G
        clear hpb HCO
        generalize X i = x at *
        generalize Y i = y at *
        go_wp2_with fail
        clear p0 p1 s0 s1
        refine (G.out _).mono ?_
        rintro e V ⟨rfl, hb1⟩
        have BX := Lib.hid (BW.out.trans (hb1.mono BW.out.size))
        clear hb1
        go_wp2_with fail
        go_ret
        exact ⟨by rw [HE.out]; rfl, BX.out⟩
      rw [hpb] at G
      have HPB := Lib.hid hpb
      clear hpb
      generalize hXi : X i = x at *
      generalize hYi : Y i = y at *
      have HXI := Lib.hid hXi
      have HYI := Lib.hid hYi
      clear hXi hYi
      go_wp2_with fail
      clear p0 p1 s0 s1
      refine (G.out _).mono ?_
      rintro e V ⟨rfl, hb1⟩
      have HV := Lib.hid (HB.out.trans (hb1.mono HB.out.size))
      clear hb1 G
      have HBX := HV.out
      go_wp2_with fail
      rename_i wold
      go_loopw [5] (fun t wr => ∃ k : Nat, k ≤ i ∧ t = .int .i64 k ∧ Below W0.heap.size W0 wr ∧ Hid (∀ j, j < k → ¬ (X j = x ∧ Y j = y))) (fun t _ => i - (intOf t).toNat)
      case atStart => exact ⟨0, Nat.zero_le _, rfl, HV.out, Lib.hid (fun k hk => absurd hk (Nat.not_lt_zero _))⟩
      case round =>
        obtain ⟨k, hk, rfl, hb, HNE⟩ := hrel
        clear HV HBX HB BW
        have HB := Lib.hid hb
        have BW := Lib.hid (S0.out.1.trans (hb.mono S0.out.1.size))
        by_cases hlk : k < i
        · have hlk2 : (k : Int) < (i : Int) := by omega
          have hlk3 : (k : Int) < (n : Int) := by omega
          have hk0 : (0 : Int) ≤ (k : Int) := Int.natCast_nonneg _
          have hi0 : (0 : Int) ≤ (i : Int) := Int.natCast_nonneg _
          obtain ⟨⟨q0, q1⟩, lb2⟩ := CC.out k (by omega) wr BW.out
          obtain ⟨⟨p0, p1⟩, lb3⟩ := CC.out i hlt wr BW.out
          rw [HXI.out] at p0
          rw [HYI.out] at p1
          have s0 : wr.cell? ⟨w.heap.size, 0, none⟩ = some (.int .i64 d) := (S0.out.old hb).cell 0
          have s1 : wr.cell? ⟨w.heap.size, 1, none⟩ = some (.slice (some ⟨b, o, none⟩) n c) := (S0.out.old hb).cell 1
          clear hb lb2 lb3
          by_cases hs : X k = x ∧ Y k = y
          · have HE := Lib.hid (N1.out i HLT.out (co_no2 hlk ⟨hs.1.trans HXI.out.symm, hs.2.trans HYI.out.symm⟩))
            rw [hs.1] at q0
            rw [hs.2] at q1
            have g1 : (x == x) = true := beq_iff_eq.mpr rfl
            have g2 : (y == y) = true := beq_iff_eq.mpr rfl
            clear hs
            go_wp2_with fail
            go_quiet (fail)
            go_wp2_with fail
            go_ret
            exact ⟨by rw [HE.out]; rfl, aid.below_drewN BW.out _⟩
          · have HNX := Lib.hid (show ∀ j, j < k + 1 → ¬ (X j = x ∧ Y j = y) from fun j hj => by
              by_cases e : j = k
              · rw [e]; exact hs
              · exact HNE.out j (by omega))
            by_cases ex : X k = x
            · have g1 : (X k == x) = true := beq_iff_eq.mpr ex
              have g2 : (Y k == y) = false := beq_eq_false_iff_ne.mpr (fun h => hs ⟨ex, h⟩)
              clear hs ex
              generalize X k = u at *
              generalize Y k = v at *
              go_wp2_with fail
              go_quiet (fail)
              go_wp2_with fail
              go_roundw
              case rel => exact ⟨k + 1, by omega, by go_num, aid.below_drewN HB.out _, HNX⟩
              case measure => simp [intOf]; omega
            · have g1 : (X k == x) = false := beq_eq_false_iff_ne.mpr ex
              clear hs ex
              generalize X k = u at *
              generalize Y k = v at *
              go_wp2_with fail
              go_quiet (fail)
              go_wp2_with fail
              go_roundw
              case rel => exact ⟨k + 1, by omega, by go_num, aid.below_drewN HB.out _, HNX⟩
              case measure => simp [intOf]; omega
        · obtain rfl : k = i := by omega
          have HT := Lib.hid (show ∀ j, j < k + 1 → coB X Y j = true from fun j hj => by
            by_cases e : j = k
            · rw [e]; exact co_of (by rw [HXI.out, HYI.out]; exact HPB.out) (by rw [HXI.out, HYI.out]; exact HNE.out)
            · exact HCO.out j (by omega))
          clear hb
          go_wp2_with fail
          go_roundw
          case rel => exact ⟨k + 1, by have := HLT.out; omega, by go_num, HB.out, HT⟩
          case measure => simp [intOf]; omega
    · obtain rfl : i = n := by omega
      have HV := Lib.hid hb
      clear hb N1 G7
      go_wp2_with fail
      rename_i wold
      have HP := Lib.hid (fun k (hk : k < i) => (co_yes (HCO.out k hk)).1)
      go_loopw [6] (fun t wr => ∃ j : Nat, j ≤ i ∧ t = .int .i64 j ∧ Below W0.heap.size W0 wr ∧ Hid (∀ l, l < j → neB X Y i l = true ∧ ∀ k, k < i → l + 2 ≤ k → apB X Y i l k = true)) (fun t _ => i - (intOf t).toNat)
      case atStart => exact ⟨0, Nat.zero_le _, rfl, HV.out, Lib.hid (fun k hk => absurd hk (Nat.not_lt_zero _))⟩
      case round =>
        obtain ⟨l, hl, rfl, hb, HNB⟩ := hrel
        clear HV HB
        have HB := Lib.hid hb
        have BW := Lib.hid (S0.out.1.trans (hb.mono S0.out.1.size))
        by_cases hlt : l < i
        · obtain ⟨j, hj⟩ : ∃ j, j = (l + 1) % i := ⟨_, rfl⟩
          obtain ⟨m, hmm⟩ : ∃ m, m = (l + 2) % i := ⟨_, rfl⟩
          have hjn : j < i := by rw [hj]; exact Nat.mod_lt _ (by omega)
          have hmn : m < i := by rw [hmm]; exact Nat.mod_lt _ (by omega)
          have hm : ((l : Int) + 1) % (i : Int) = (j : Int) := by rw [hj]; exact mod_c1 l i
          have hm2 : ((l : Int) + 1).tmod (i : Int) = (j : Int) := by rw [hj]; exact mod_c2 l i
          have hm3 : ((l : Int) + 2) % (i : Int) = (m : Int) := by rw [hmm]; exact mod_d1 l i
          have hm4 : ((l : Int) + 2).tmod (i : Int) = (m : Int) := by rw [hmm]; exact mod_d2 l i
          have hjn2 : (j : Int) < (i : Int) := by omega
          have hmn2 : (m : Int) < (i : Int) := by omega
          have hj0 : (0 : Int) ≤ (j : Int) := Int.natCast_nonneg _
          have hm0 : (0 : Int) ≤ (m : Int) := Int.natCast_nonneg _
          have hl0 : (0 : Int) ≤ (l : Int) := Int.natCast_nonneg _
          have hlt2 : (l : Int) < (i : Int) := by omega
          have hnk : ¬ i = 0 := by omega
          have hne : ¬ (i : Int) = 0 := by omega
          have wk : IntKind.i64.wrap ((l : Int) + 1) = (l : Int) + 1 := IntWalk.i64_in _ (by omega)
          have wk2 : IntKind.i64.wrap ((l : Int) + 2) = (l : Int) + 2 := IntWalk.i64_in _ (by omega)
          have D1 := Lib.hid (fun w => on17 (X l) (Y l) (X j) (Y j) (X m) (Y m) (HP.out l hlt) (HP.out j hjn) (HP.out m hmn) w)
          have D2 := Lib.hid (fun w => on17 (X j) (Y j) (X m) (Y m) (X l) (Y l) (HP.out j hjn) (HP.out m hmn) (HP.out l hlt) w)
          have D3 := Lib.hid (fun k k2 (hk : k < i) (hk2 : k2 < i) => fun W d0 os => Calls.regrown_of (meet17 (X l) (Y l) (X j) (Y j) (X k) (Y k) (X k2) (Y k2) (HP.out l hlt) (HP.out j hjn) (HP.out k hk) (HP.out k2 hk2) (Sort.grow (redrawn W d0) os)))
          have HNE := Lib.hid (show neB X Y i l = (!onB (X l) (Y l) (X j) (Y j) (X m) (Y m) && !onB (X j) (Y j) (X m) (Y m) (X l) (Y l)) from by unfold neB; rw [hj, hmm])
          have HAP := Lib.hid (fun k (h : ¬ (l = 0 ∧ k + 1 = i)) => show apB X Y i l k = !meB (X l) (Y l) (X j) (Y j) (X k) (Y k) (X ((k + 1) % i)) (Y ((k + 1) % i)) from by
            unfold apB
            rw [← hj, show (decide (l = 0) && decide (k + 1 = i)) = false by rw [Bool.and_eq_false_iff, decide_eq_false_iff_not, decide_eq_false_iff_not]; omega, Bool.false_or])
          have HA0 := Lib.hid (fun k (h : l = 0 ∧ k + 1 = i) => show apB X Y i l k = true from by
            unfold apB
            rw [decide_eq_true h.1, decide_eq_true h.2]; rfl)
          have HN2 := Lib.hid (N2.out l hlt)
          have CS := Lib.hid (show ∀ WZ : World, Below wr.heap.size wr WZ → WZ.cell? ⟨w.heap.size, 1, none⟩ = some (.slice (some ⟨b, o, none⟩) i c) ∧ WZ.cell? ⟨b, o + l * 2, none⟩ = some (.int .i64 (X l)) ∧ WZ.cell? ⟨b, o + l * 2 + 1, none⟩ = some (.int .i64 (Y l)) ∧ WZ.cell? ⟨b, o + j * 2, none⟩ = some (.int .i64 (X j)) ∧ WZ.cell? ⟨b, o + j * 2 + 1, none⟩ = some (.int .i64 (Y j)) ∧ WZ.cell? ⟨b, o + m * 2, none⟩ = some (.int .i64 (X m)) ∧ WZ.cell? ⟨b, o + m * 2 + 1, none⟩ = some (.int .i64 (Y m)) from fun WZ hz =>
            have hw := BW.out.trans (hz.mono BW.out.size)
            ⟨(S0.out.old (HB.out.trans (hz.mono HB.out.size))).cell 1, (CC.out l hlt WZ hw).1.1, (CC.out l hlt WZ hw).1.2, (CC.out j hjn WZ hw).1.1, (CC.out j hjn WZ hw).1.2, (CC.out m hmn WZ hw).1.1, (CC.out m hmn WZ hw).1.2⟩)
          have lb : b < wr.heap.size := (CC.out l hlt wr BW.out).2
          have lw : w.heap.size < wr.heap.size := Nat.lt_of_lt_of_le S0.out.2.2.1 hb.size
          have HLT := Lib.hid hlt
          clear hb hj hmm
          generalize X l = x at *
          generalize Y l = y at *
          generalize X j = u at *
          generalize Y j = v at *
          generalize X m = p at *
          generalize Y m = q at *
          have M0 := Lib.hid (three_new #[.int .i64 x, .int .i64 y] #[.int .i64 u, .int .i64 v] #[.int .i64 p, .int .i64 q] wr)
          have M1 := Lib.hid (three_new #[.int .i64 x, .int .i64 y] #[.int .i64 p, .int .i64 q] #[.int .i64 u, .int .i64 v] wr)
          have M2 := Lib.hid (three_new #[.int .i64 u, .int .i64 v] #[.int .i64 x, .int .i64 y] #[.int .i64 p, .int .i64 q] wr)
          have M3 := Lib.hid (three_new #[.int .i64 u, .int .i64 v] #[.int .i64 p, .int .i64 q] #[.int .i64 x, .int .i64 y] wr)
          have M4 := Lib.hid (three_new #[.int .i64 p, .int .i64 q] #[.int .i64 x, .int .i64 y] #[.int .i64 u, .int .i64 v] wr)
          have M5 := Lib.hid (three_new #[.int .i64 p, .int .i64 q] #[.int .i64 u, .int .i64 v] #[.int .i64 x, .int .i64 y] wr)
          go_upto_region 17 with fail
          go_cut [7, 8, 9] from 56 to 76 (fun r s z wz => ∃ g h f : Nat, r = .pointer (some ⟨g, 0, none⟩) ∧ s = .pointer (some ⟨h, 0, none⟩) ∧ z = .pointer (some ⟨f, 0, none⟩) ∧ AtS 31 #[.int .i64 x, .int .i64 y] wr wz g ∧ AtS 31 #[.int .i64 u, .int .i64 v] wr wz h ∧ AtS 31 #[.int .i64 p, .int .i64 q] wr wz f)
          case first =>
            go_region_held3 (fun w' => w'.cell? ⟨w.heap.size, 1, none⟩ = some (.slice (some ⟨b, o, none⟩) i c) ∧ w'.cell? ⟨b, o + l * 2, none⟩ = some (.int .i64 x) ∧ w'.cell? ⟨b, o + l * 2 + 1, none⟩ = some (.int .i64 y) ∧ w'.cell? ⟨b, o + j * 2, none⟩ = some (.int .i64 u) ∧ w'.cell? ⟨b, o + j * 2 + 1, none⟩ = some (.int .i64 v) ∧ w'.cell? ⟨b, o + m * 2, none⟩ = some (.int .i64 p) ∧ w'.cell? ⟨b, o + m * 2 + 1, none⟩ = some (.int .i64 q)) (first
              | exact CS.out _ (Below.refl wr.heap.size wr).drew
              | exact CS.out _ ((Below.refl wr.heap.size wr).alloc (Nat.le_refl _) _).drew
              | exact CS.out _ (((Below.refl wr.heap.size wr).alloc (Nat.le_refl _) _).alloc (by rw [World.size_alloc]; omega) _).drew
              | exact CS.out _ ((((Below.refl wr.heap.size wr).alloc (Nat.le_refl _) _).alloc (by rw [World.size_alloc]; omega) _).alloc (by rw [World.size_alloc, World.size_alloc]; omega) _).drew
              | go_keep) (fail)
            all_goals (
              go_wp2_with fail
              go_meet
              first
              | exact ⟨_, _, _, rfl, rfl, rfl, M0.out.1.drew, M0.out.2.1.drew, M0.out.2.2.drew⟩
              | exact ⟨_, _, _, rfl, rfl, rfl, M1.out.1.drew, M1.out.2.2.drew, M1.out.2.1.drew⟩
              | exact ⟨_, _, _, rfl, rfl, rfl, M2.out.2.1.drew, M2.out.1.drew, M2.out.2.2.drew⟩
              | exact ⟨_, _, _, rfl, rfl, rfl, M3.out.2.2.drew, M3.out.1.drew, M3.out.2.1.drew⟩
              | exact ⟨_, _, _, rfl, rfl, rfl, M4.out.2.1.drew, M4.out.2.2.drew, M4.out.1.drew⟩
              | exact ⟨_, _, _, rfl, rfl, rfl, M5.out.2.2.drew, M5.out.2.1.drew, M5.out.1.drew⟩)
          case rest =>
            obtain ⟨g, h, f, rfl, rfl, rfl, a1, a2, a3⟩ := hcut
            have A1 := Lib.hid a1
            have A2 := Lib.hid a2
            have A3 := Lib.hid a3
            have HBc := Lib.hid (HB.out.trans (a1.1.mono HB.out.size))
            clear a1 a2 a3 M0 M1 M2 M3 M4 M5 CS
            generalize onB x y u v p q = q1 at *
            generalize onB u v p q x y = q2 at *
            cases q1
            case true =>
              have a0 : wc.cell? ⟨g, 0, none⟩ = some (.int .i64 x) := A1.out.cell 0
              have a1 : wc.cell? ⟨g, 1, none⟩ = some (.int .i64 y) := A1.out.cell 1
              have d0 : wc.cell? ⟨h, 0, none⟩ = some (.int .i64 u) := A2.out.cell 0
              have d1 : wc.cell? ⟨h, 1, none⟩ = some (.int .i64 v) := A2.out.cell 1
              have f0 : wc.cell? ⟨f, 0, none⟩ = some (.int .i64 p) := A3.out.cell 0
              have f1 : wc.cell? ⟨f, 1, none⟩ = some (.int .i64 q) := A3.out.cell 1
              go_wp2_with fail
              clear a0 a1 d0 d1 f0 f1
              refine (D1.out _).mono ?_
              rintro e V1 ⟨rfl, hb1⟩
              have B1 := Lib.hid (HBc.out.trans (hb1.mono HBc.out.size))
              have A11 := Lib.hid (A1.out.old hb1)
              have A21 := Lib.hid (A2.out.old hb1)
              have A31 := Lib.hid (A3.out.old hb1)
              clear hb1
              have HE := Lib.hid (HN2.out HNE.out)
              have BX := Lib.hid (S0.out.1.trans (B1.out.mono S0.out.1.size))
              go_wp2_with fail
              go_ret
              exact ⟨by rw [HE.out]; rfl, BX.out⟩
            cases q2
            case true =>
              have a0 : wc.cell? ⟨g, 0, none⟩ = some (.int .i64 x) := A1.out.cell 0
              have a1 : wc.cell? ⟨g, 1, none⟩ = some (.int .i64 y) := A1.out.cell 1
              have d0 : wc.cell? ⟨h, 0, none⟩ = some (.int .i64 u) := A2.out.cell 0
              have d1 : wc.cell? ⟨h, 1, none⟩ = some (.int .i64 v) := A2.out.cell 1
              have f0 : wc.cell? ⟨f, 0, none⟩ = some (.int .i64 p) := A3.out.cell 0
              have f1 : wc.cell? ⟨f, 1, none⟩ = some (.int .i64 q) := A3.out.cell 1
              go_wp2_with fail
              clear a0 a1 d0 d1 f0 f1
              refine (D1.out _).mono ?_
              rintro e V1 ⟨rfl, hb1⟩
              have B1 := Lib.hid (HBc.out.trans (hb1.mono HBc.out.size))
              have A11 := Lib.hid (A1.out.old hb1)
              have A21 := Lib.hid (A2.out.old hb1)
              have A31 := Lib.hid (A3.out.old hb1)
              clear hb1
              have a0 : V1.cell? ⟨g, 0, none⟩ = some (.int .i64 x) := A11.out.cell 0
              have a1 : V1.cell? ⟨g, 1, none⟩ = some (.int .i64 y) := A11.out.cell 1
              have d0 : V1.cell? ⟨h, 0, none⟩ = some (.int .i64 u) := A21.out.cell 0
              have d1 : V1.cell? ⟨h, 1, none⟩ = some (.int .i64 v) := A21.out.cell 1
              have f0 : V1.cell? ⟨f, 0, none⟩ = some (.int .i64 p) := A31.out.cell 0
              have f1 : V1.cell? ⟨f, 1, none⟩ = some (.int .i64 q) := A31.out.cell 1
              go_wp2_with fail
              clear a0 a1 d0 d1 f0 f1
              refine (D2.out _).mono ?_
              rintro e V2 ⟨rfl, hb2⟩
              have B2 := Lib.hid (B1.out.trans (hb2.mono B1.out.size))
              have A12 := Lib.hid (A11.out.old hb2)
              have A22 := Lib.hid (A21.out.old hb2)
              clear hb2
              have HE := Lib.hid (HN2.out HNE.out)
              have BX := Lib.hid (S0.out.1.trans (B2.out.mono S0.out.1.size))
              go_wp2_with fail
              go_ret
              exact ⟨by rw [HE.out]; rfl, BX.out⟩
            have a0 : wc.cell? ⟨g, 0, none⟩ = some (.int .i64 x) := A1.out.cell 0
            have a1 : wc.cell? ⟨g, 1, none⟩ = some (.int .i64 y) := A1.out.cell 1
            have d0 : wc.cell? ⟨h, 0, none⟩ = some (.int .i64 u) := A2.out.cell 0
            have d1 : wc.cell? ⟨h, 1, none⟩ = some (.int .i64 v) := A2.out.cell 1
            have f0 : wc.cell? ⟨f, 0, none⟩ = some (.int .i64 p) := A3.out.cell 0
            have f1 : wc.cell? ⟨f, 1, none⟩ = some (.int .i64 q) := A3.out.cell 1
            go_wp2_with fail
            clear a0 a1 d0 d1 f0 f1
            refine (D1.out _).mono ?_
            rintro e V1 ⟨rfl, hb1⟩
            have B1 := Lib.hid (HBc.out.trans (hb1.mono HBc.out.size))
            have A11 := Lib.hid (A1.out.old hb1)
            have A21 := Lib.hid (A2.out.old hb1)
            have A31 := Lib.hid (A3.out.old hb1)
            clear hb1
            have a0 : V1.cell? ⟨g, 0, none⟩ = some (.int .i64 x) := A11.out.cell 0
            have a1 : V1.cell? ⟨g, 1, none⟩ = some (.int .i64 y) := A11.out.cell 1
            have d0 : V1.cell? ⟨h, 0, none⟩ = some (.int .i64 u) := A21.out.cell 0
            have d1 : V1.cell? ⟨h, 1, none⟩ = some (.int .i64 v) := A21.out.cell 1
            have f0 : V1.cell? ⟨f, 0, none⟩ = some (.int .i64 p) := A31.out.cell 0
            have f1 : V1.cell? ⟨f, 1, none⟩ = some (.int .i64 q) := A31.out.cell 1
            go_wp2_with fail
            clear a0 a1 d0 d1 f0 f1
            refine (D2.out _).mono ?_
            rintro e V2 ⟨rfl, hb2⟩
            have B2 := Lib.hid (B1.out.trans (hb2.mono B1.out.size))
            have A12 := Lib.hid (A11.out.old hb2)
            have A22 := Lib.hid (A21.out.old hb2)
            clear hb2
            have HNE2 := Lib.hid (show neB X Y i l = true from HNE.out)
            go_wp2_with fail
            rename_i wold3
            go_loopw [10] (fun t wr => ∃ k : Nat, l + 2 ≤ k ∧ k ≤ i + 1 ∧ t = .int .i64 k ∧ Below V2.heap.size V2 wr ∧ Hid (∀ z, z < i → z < k → l + 2 ≤ z → apB X Y i l z = true)) (fun t _ => i + 1 - (intOf t).toNat)
            case atStart => exact ⟨l + 2, Nat.le_refl _, by have := HLT.out; omega, by go_num, Below.refl _ _, Lib.hid (fun z _ h2 h3 => absurd h2 (by omega))⟩
            case round =>
              obtain ⟨k, hk1, hk2, rfl, hb, HPA⟩ := hrel
              have HBI := Lib.hid (B2.out.trans (hb.mono B2.out.size))
              have BWI := Lib.hid (S0.out.1.trans (HBI.out.mono S0.out.1.size))
              by_cases hlk : k < i
              · have hlk2 : (k : Int) < (i : Int) := by omega
                have hk0 : (0 : Int) ≤ (k : Int) := Int.natCast_nonneg _
                have wn : IntKind.i64.wrap ((i : Int) - 1) = (i : Int) - 1 := IntWalk.i64_in _ (by have := HH8.out; omega)
                have wkk : IntKind.i64.wrap ((k : Int) + 1) = (k : Int) + 1 := IntWalk.i64_in _ (by have := HH8.out; omega)
                by_cases hsk : l = 0 ∧ k + 1 = i
                · have HT := Lib.hid (show ∀ z, z < i → z < k + 1 → l + 2 ≤ z → apB X Y i l z = true from fun z h1 h2 h3 => by
                    by_cases e : z = k
                    · rw [e]; exact HA0.out k hsk
                    · exact HPA.out z h1 (by omega) h3)
                  have g1 : ((l : Int) == 0) = true := beq_iff_eq.mpr (by omega)
                  have g2 : ((k : Int) == (i : Int) - 1) = true := beq_iff_eq.mpr (by omega)
                  have g3 : (l : Int) = 0 := by omega
                  have g4 : (k : Int) = (i : Int) - 1 := by omega
                  have g5 : l = 0 := hsk.1
                  have HBX := Lib.hid hb
                  have hk3 := hsk.2
                  clear hb hsk
                  go_wp2_with fail
                  go_roundw
                  case rel => exact ⟨k + 1, by omega, by omega, by go_num, HBX.out, HT⟩
                  case measure => simp [intOf]; omega
                · obtain ⟨k2, hk3⟩ : ∃ k2, k2 = (k + 1) % i := ⟨_, rfl⟩
                  have hk4 : k2 < i := by rw [hk3]; exact Nat.mod_lt _ (by omega)
                  have hm5 : ((k : Int) + 1) % (i : Int) = (k2 : Int) := by rw [hk3]; exact mod_c1 k i
                  have hm6 : ((k : Int) + 1).tmod (i : Int) = (k2 : Int) := by rw [hk3]; exact mod_c2 k i
                  have hk5 : (k2 : Int) < (i : Int) := by omega
                  have hk6 : (0 : Int) ≤ (k2 : Int) := Int.natCast_nonneg _
                  obtain ⟨⟨p0, p1⟩, lb2⟩ := CC.out k hlk wr BWI.out
                  obtain ⟨⟨q0, q1⟩, lb3⟩ := CC.out k2 hk4 wr BWI.out
                  have s1 : wr.cell? ⟨w.heap.size, 1, none⟩ = some (.slice (some ⟨b, o, none⟩) i c) := (S0.out.old HBI.out).cell 1
                  have a0 : wr.cell? ⟨g, 0, none⟩ = some (.int .i64 x) := (A12.out.old hb).cell 0
                  have a1 : wr.cell? ⟨g, 1, none⟩ = some (.int .i64 y) := (A12.out.old hb).cell 1
                  have hh0 : wr.cell? ⟨h, 0, none⟩ = some (.int .i64 u) := (A22.out.old hb).cell 0
                  have hh1 : wr.cell? ⟨h, 1, none⟩ = some (.int .i64 v) := (A22.out.old hb).cell 1
                  have HQ := Lib.hid (HAP.out k hsk)
                  rw [← hk3] at HQ
                  have D := Lib.hid (D3.out k k2 hlk hk4)
                  have HF := Lib.hid (fun h => N3.out l k HLT.out hlk hk1 h)
                  have HPX := Lib.hid (fun (h : apB X Y i l k = true) => show ∀ z, z < i → z < k + 1 → l + 2 ≤ z → apB X Y i l z = true from fun z h1 h2 h3 => by
                    by_cases e : z = k
                    · rw [e]; exact h
                    · exact HPA.out z h1 (by omega) h3)
                  have g0 : ((l : Int) == 0 && (k : Int) == (i : Int) - 1) = false := by
                    rw [Bool.and_eq_false_iff]
                    by_cases e : l = 0
                    · exact Or.inr (beq_eq_false_iff_ne.mpr (by omega))
                    · exact Or.inl (beq_eq_false_iff_ne.mpr (by omega))
                  have HBX := Lib.hid hb
                  clear hb lb2 lb3 hk3
                  generalize meB x y u v (X k) (Y k) (X k2) (Y k2) = tb at *
                  generalize X k = ax at *
                  generalize Y k = ay at *
                  generalize X k2 = bx at *
                  generalize Y k2 = by_ at *
                  by_cases e0 : l = 0
                  · have g1 : ((l : Int) == 0) = true := beq_iff_eq.mpr (by omega)
                    have g2 : ((k : Int) == (i : Int) - 1) = false := beq_eq_false_iff_ne.mpr (by omega)
                    have g4 : ¬ (k : Int) = (i : Int) - 1 := by omega
                    clear g0 hsk e0
                    cases tb
                    · go_upto_region 24 with fail
                      have p0' := fun d0 os => cell_regrown p0 d0 os
                      have p1' := fun d0 os => cell_regrown p1 d0 os
                      have q0' := fun d0 os => cell_regrown q0 d0 os
                      have q1' := fun d0 os => cell_regrown q1 d0 os
                      have s1' := fun d0 os => cell_regrown s1 d0 os
                      have a0' := fun d0 os => cell_regrown a0 d0 os
                      have a1' := fun d0 os => cell_regrown a1 d0 os
                      have hh0' := fun d0 os => cell_regrown hh0 d0 os
                      have hh1' := fun d0 os => cell_regrown hh1 d0 os
                      clear p0 p1 q0 q1 s1 a0 a1 hh0 hh1
                      refine wp_region_quiet_below (by kernel_rfl) (by kernel_rfl) ?_
                      repeat (
                        with_reducible refine wpQuiet_step (fun K hK => ?_)
                        go_simp
                        first
                          | (refine hK _ ?_; clear hK K)
                          | (apply Exists.intro
                             refine ⟨fun _ => ?_, hK _ ?_⟩
                             (first
                               | (go_at_call 98; with_reducible exact D.out _ _ _))
                             clear hK K))
                      with_reducible refine wpQuiet_nil ?_
                      intro _ hw'
                      obtain ⟨⟨dq, osq⟩, hw''⟩ := hw'
                      subst hw''
                      have hbl := (below_regrown wr dq osq)
                      clear p0' p1' q0' q1' s1' a0' a1' hh0' hh1'
                      generalize Sort.grow (redrawn wr dq) osq = w3 at *
                      have HB3 := Lib.hid (HBX.out.trans (hbl.mono HBX.out.size))
                      have BW3 := Lib.hid (BWI.out.trans (hbl.mono BWI.out.size))
                      clear hbl
                      have HT := Lib.hid (HPX.out HQ.out)
                      go_wp2_with fail
                      go_roundw
                      case rel => exact ⟨k + 1, by omega, by omega, by go_num, HB3.out, HT⟩
                      case measure => simp [intOf]; omega
                    · go_upto_region 24 with fail
                      have p0' := fun d0 os => cell_regrown p0 d0 os
                      have p1' := fun d0 os => cell_regrown p1 d0 os
                      have q0' := fun d0 os => cell_regrown q0 d0 os
                      have q1' := fun d0 os => cell_regrown q1 d0 os
                      have s1' := fun d0 os => cell_regrown s1 d0 os
                      have a0' := fun d0 os => cell_regrown a0 d0 os
                      have a1' := fun d0 os => cell_regrown a1 d0 os
                      have hh0' := fun d0 os => cell_regrown hh0 d0 os
                      have hh1' := fun d0 os => cell_regrown hh1 d0 os
                      clear p0 p1 q0 q1 s1 a0 a1 hh0 hh1
                      refine wp_region_quiet_below (by kernel_rfl) (by kernel_rfl) ?_
                      repeat (
                        with_reducible refine wpQuiet_step (fun K hK => ?_)
                        go_simp
                        first
                          | (refine hK _ ?_; clear hK K)
                          | (apply Exists.intro
                             refine ⟨fun _ => ?_, hK _ ?_⟩
                             (first
                               | (go_at_call 98; with_reducible exact D.out _ _ _))
                             clear hK K))
                      with_reducible refine wpQuiet_nil ?_
                      intro _ hw'
                      obtain ⟨⟨dq, osq⟩, hw''⟩ := hw'
                      subst hw''
                      have hbl := (below_regrown wr dq osq)
                      clear p0' p1' q0' q1' s1' a0' a1' hh0' hh1'
                      generalize Sort.grow (redrawn wr dq) osq = w3 at *
                      have HB3 := Lib.hid (HBX.out.trans (hbl.mono HBX.out.size))
                      have BW3 := Lib.hid (BWI.out.trans (hbl.mono BWI.out.size))
                      clear hbl
                      have HT := Lib.hid (HF.out HQ.out)
                      go_wp2_with fail
                      go_ret
                      exact ⟨by rw [HT.out]; rfl, BW3.out⟩
                  have g1 : ((l : Int) == 0) = false := beq_eq_false_iff_ne.mpr (by omega)
                  have g3 : ¬ (l : Int) = 0 := by omega
                  clear g0 hsk
                  cases tb
                  · go_upto_region 24 with fail
                    have p0' := fun d0 os => cell_regrown p0 d0 os
                    have p1' := fun d0 os => cell_regrown p1 d0 os
                    have q0' := fun d0 os => cell_regrown q0 d0 os
                    have q1' := fun d0 os => cell_regrown q1 d0 os
                    have s1' := fun d0 os => cell_regrown s1 d0 os
                    have a0' := fun d0 os => cell_regrown a0 d0 os
                    have a1' := fun d0 os => cell_regrown a1 d0 os
                    have hh0' := fun d0 os => cell_regrown hh0 d0 os
                    have hh1' := fun d0 os => cell_regrown hh1 d0 os
                    clear p0 p1 q0 q1 s1 a0 a1 hh0 hh1
                    refine wp_region_quiet_below (by kernel_rfl) (by kernel_rfl) ?_
                    repeat (
                      with_reducible refine wpQuiet_step (fun K hK => ?_)
                      go_simp
                      first
                        | (refine hK _ ?_; clear hK K)
                        | (apply Exists.intro
                           refine ⟨fun _ => ?_, hK _ ?_⟩
                           (first
                             | (go_at_call 98; with_reducible exact D.out _ _ _))
                           clear hK K))
                    with_reducible refine wpQuiet_nil ?_
                    intro _ hw'
                    obtain ⟨⟨dq, osq⟩, hw''⟩ := hw'
                    subst hw''
                    have hbl := (below_regrown wr dq osq)
                    clear p0' p1' q0' q1' s1' a0' a1' hh0' hh1'
                    generalize Sort.grow (redrawn wr dq) osq = w3 at *
                    have HB3 := Lib.hid (HBX.out.trans (hbl.mono HBX.out.size))
                    have BW3 := Lib.hid (BWI.out.trans (hbl.mono BWI.out.size))
                    clear hbl
                    have HT := Lib.hid (HPX.out HQ.out)
                    go_wp2_with fail
                    go_roundw
                    case rel => exact ⟨k + 1, by omega, by omega, by go_num, HB3.out, HT⟩
                    case measure => simp [intOf]; omega
                  · go_upto_region 24 with fail
                    have p0' := fun d0 os => cell_regrown p0 d0 os
                    have p1' := fun d0 os => cell_regrown p1 d0 os
                    have q0' := fun d0 os => cell_regrown q0 d0 os
                    have q1' := fun d0 os => cell_regrown q1 d0 os
                    have s1' := fun d0 os => cell_regrown s1 d0 os
                    have a0' := fun d0 os => cell_regrown a0 d0 os
                    have a1' := fun d0 os => cell_regrown a1 d0 os
                    have hh0' := fun d0 os => cell_regrown hh0 d0 os
                    have hh1' := fun d0 os => cell_regrown hh1 d0 os
                    clear p0 p1 q0 q1 s1 a0 a1 hh0 hh1
                    refine wp_region_quiet_below (by kernel_rfl) (by kernel_rfl) ?_
                    repeat (
                      with_reducible refine wpQuiet_step (fun K hK => ?_)
                      go_simp
                      first
                        | (refine hK _ ?_; clear hK K)
                        | (apply Exists.intro
                           refine ⟨fun _ => ?_, hK _ ?_⟩
                           (first
                             | (go_at_call 98; with_reducible exact D.out _ _ _))
                           clear hK K))
                    with_reducible refine wpQuiet_nil ?_
                    intro _ hw'
                    obtain ⟨⟨dq, osq⟩, hw''⟩ := hw'
                    subst hw''
                    have hbl := (below_regrown wr dq osq)
                    clear p0' p1' q0' q1' s1' a0' a1' hh0' hh1'
                    generalize Sort.grow (redrawn wr dq) osq = w3 at *
                    have HB3 := Lib.hid (HBX.out.trans (hbl.mono HBX.out.size))
                    have BW3 := Lib.hid (BWI.out.trans (hbl.mono BWI.out.size))
                    clear hbl
                    have HT := Lib.hid (HF.out HQ.out)
                    go_wp2_with fail
                    go_ret
                    exact ⟨by rw [HT.out]; rfl, BW3.out⟩
              · have HT := Lib.hid (show ∀ z, z < l + 1 → neB X Y i z = true ∧ ∀ k, k < i → z + 2 ≤ k → apB X Y i z k = true from fun z hz => by
                  by_cases e : z = l
                  · rw [e]; exact ⟨HNE2.out, fun k' h1 h2 => HPA.out k' h1 (by omega) h2⟩
                  · exact HNB.out z (by omega))
                have hlk2 : ¬ (k : Int) < (i : Int) := by omega
                clear hb
                go_wp2_with fail
                go_roundw
                case rel => exact ⟨l + 1, by have := HLT.out; omega, by go_num, HBI.out, HT⟩
                case measure => have := HLT.out; simp [intOf]; omega
        · obtain rfl : l = i := by omega
          have HT := Lib.hid (bo_of HCO.out HNB.out)
          clear hb
          go_wp2_with fail
          go_ret
          exact ⟨by rw [HT.out]; rfl, BW.out⟩

theorem isValidSector (d : Int) (zs : List Int) (A : Option Addr) (n c : Nat) (w : World) (hn : n ≤ 1048576) (h1 : RdZ 2 w w.heap.size A n zs) :
    Calls Try.prog 21 #[.agg #[.int .i64 d, .slice A n c]] w fun e w' => e = .returned (.bool (seB d (cX zs) (cY zs) n)) ∧ Below w.heap.size w w' := by
  have S0 := Lib.hid (newS 42 #[.int .i64 d, .slice A n c] w)
  have C0 := Lib.hid (fun W (hb : Below w.heap.size w W) => good17 d zs A n c W hn (h1.next hb))
  clear h1
  generalize seB d (cX zs) (cY zs) n = q at *
  go_enter Try.func21, Try.ntmps21
  go_wp2_with fail
  generalize (w.alloc (.cells #[.int .i64 d, .slice A n c] 42)) = W0 at *
  refine (C0.out W0 S0.out.1).mono ?_
  rintro e V ⟨rfl, hb⟩
  have BX := Lib.hid (S0.out.1.trans (hb.mono S0.out.1.size))
  clear hb
  go_wp2_with fail
  go_ret
  exact ⟨rfl, BX.out⟩
end Go.Proofs.Ytkndfklbonkbiaa.sctw
