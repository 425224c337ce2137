/- impl's haveSameOrder (a labelled continue and a goto) and SameSector. -/
import Derived.Test.YtkndfklbonkbiaaSctC
import Derived.Test.YtkndfklbonkbiaaSctR
import Derived.ScopeJumps
import Derived.WalkMore
import Derived.Deep.LoopGhost
namespace Go.Proofs.Ytkndfklbonkbiaa.scty
open Go.RowKit Go.Proofs.Ytkndfklbonkbiaa.ints Go.Proofs.Ytkndfklbonkbiaa.lst Go.Proofs.Ytkndfklbonkbiaa.in_ Go.Proofs.Ytkndfklbonkbiaa.ats Go.Proofs.Ytkndfklbonkbiaa.pos Go.Proofs.Ytkndfklbonkbiaa.sct Go.Proofs.Ytkndfklbonkbiaa.sctt Go.Proofs.Ytkndfklbonkbiaa.sctv Go.Proofs.Ytkndfklbonkbiaa.scti Go.Proofs.Ytkndfklbonkbiaa.sctj Go.Proofs.Ytkndfklbonkbiaa.sctb Go.Proofs.Ytkndfklbonkbiaa.sctr

/-- The two cells of a corner, at a later world. -/
theorem corner {w WZ : World} {n k b o : Nat} {zs : List Int} (h : RdZ 2 w w.heap.size (some ⟨b, o, none⟩) n zs) (hk : k < n) (hb : Below w.heap.size w WZ) :
    (WZ.cell? ⟨b, o + k * 2, none⟩ = some (.int .i64 (cX zs k)) ∧ WZ.cell? ⟨b, o + k * 2 + 1, none⟩ = some (.int .i64 (cY zs k))) ∧ b < WZ.heap.size := by
  obtain ⟨b', o', e, hl, p0, p1⟩ := cells2 h hk
  simp only [Option.some.injEq, Addr.mk.injEq, and_true] at e
  obtain ⟨rfl, rfl⟩ := e
  exact ⟨⟨(hb.cell (p := ⟨b, o + k * 2, none⟩) hl).trans p0, (hb.cell (p := ⟨b, o + k * 2 + 1, none⟩) hl).trans p1⟩, Nat.lt_of_lt_of_le hl hb.size⟩
set_option maxRecDepth 100000 in
set_option maxHeartbeats 2000000 in
theorem haveSameOrder (zs us : List Int) (A B : Option Addr) (n c m q : Nat) (w : World) (hn : 3 ≤ n ∧ n ≤ 8) (h1 : RdZ 2 w w.heap.size A n zs) (h2 : RdZ 2 w w.heap.size B m us) :
    Calls Try.prog 64 #[.slice A n c, .slice B m q] w fun e w' => e = .returned (.bool (saB (cX zs) (cY zs) n (cX us) (cY us) m)) ∧ Below w.heap.size w w' := by
  rw [sa_is]
  by_cases hnm : n = m
  case neg =>
    have g1 : ((m : Int) != (n : Int)) = true := by simp; omega
    rw [show decide (n = m) = false from decide_eq_false hnm]
    have BS := Lib.hid (Below.refl w.heap.size w)
    clear h1 h2 hnm
    go_enter Try.func64, Try.ntmps64
    go_wp2
    go_step3
    go_wp2
    first
    | (rw [Exit.noGoto_ret]; go_ret)
    | go_ret
    exact ⟨rfl, BS.out⟩
  subst hnm
  obtain ⟨h3, h8⟩ := hn
  obtain ⟨b, o, rfl, -, -, -⟩ := cells2 h1 (show 0 < n by omega)
  obtain ⟨b2, o2, rfl, -, -, -⟩ := cells2 h2 (show 0 < n by omega)
  have CA := Lib.hid (fun k (hk : k < n) WZ (hb : Below w.heap.size w WZ) => corner h1 hk hb)
  have CB := Lib.hid (fun k (hk : k < n) WZ (hb : Below w.heap.size w WZ) => corner h2 hk hb)
  generalize cX zs = X at *
  generalize cY zs = Y at *
  generalize cX us = U at *
  generalize cY us = V at *
  clear h1 h2
  have g1 : ((n : Int) != (n : Int)) = false := by simp
  have BS := Lib.hid (Below.refl w.heap.size w)
  rw [show decide (n = n) = true from decide_eq_true rfl, Bool.true_and]
  go_enter Try.func64, Try.ntmps64
  go_wp2
  obtain ⟨s, hsn⟩ : ∃ s, s = n - 1 := ⟨_, rfl⟩
  have HSN := Lib.hid hsn
  have hs7 : s ≤ 7 := by omega
  have hs2 : 2 ≤ s := by omega
  have hsx : IntKind.i64.wrap ((n : Int) - 1) = (s : Int) := by rw [show (n : Int) - 1 = (s : Int) by omega]; exact IntWalk.i64_in _ (by omega)
  clear hsn
  refine wp_scope_jumps 0 (fun a' w' => Below w.heap.size w w' ∧ Hid (anB X Y U V n 1 n = false) ∧ ∃ (u4 u7 u8 u9 u10 u11 u12 u13 u14 u15 u16 u17 u18 u19 u20 u21 u22 u23 u24 u25 u26 u27 u28 u29 u30 u31 u32 u33 u34 u35 u36 u37 u38 u39 u40 u41 u42 u43 u44 : Value), a' = { tmps := #[.slice (some ⟨b, o, none⟩) n c, .slice (some ⟨b2, o2, none⟩) n q, undef, undef, u4, .int .i64 n, .int .i64 (s : Nat), u7, u8, u9, u10, u11, u12, u13, u14, u15, u16, u17, u18, u19, u20, u21, u22, u23, u24, u25, u26, u27, u28, u29, u30, u31, u32, u33, u34, u35, u36, u37, u38, u39, u40, u41, u42, u43, u44], defers := [] }) (fun _ _ => 0) rfl ?_ ?_
  · go_wp2
    go_step3
    go_wp2
    go_loopg [17] n (fun gk p wr => ∃ a : Nat, gk = n - a ∧ a ≤ n ∧ p = .int .i64 a ∧ Below w.heap.size w wr ∧ Hid (anB X Y U V n 1 a = false))
    case atStart => exact ⟨0, by omega, by omega, rfl, BS.out, Lib.hid rfl⟩
    case round =>
      obtain ⟨a, hg, ha, rfl, hb, HAN⟩ := hrel
      have HG := Lib.hid hg
      clear hg
      by_cases hlt : a < n
      · have hlt2 : (a : Int) < (n : Int) := by omega
        have HLT := Lib.hid hlt
        have HB0 := Lib.hid hb
        clear hb
        go_wp2_with fail
        rename_i wold
        go_loopg [22] n (fun gi p wr => ∃ i : Nat, gi = n - i ∧ i ≤ n ∧ p = .int .i64 i ∧ Below w.heap.size w wr ∧ Hid (stB X Y U V n 1 a i = true))
        case atStart => exact ⟨0, by omega, by omega, rfl, HB0.out, Lib.hid rfl⟩
        case round =>
          obtain ⟨i, hg, hi, rfl, hb, HST⟩ := hrel
          have HGI := Lib.hid hg
          have HB := Lib.hid hb
          clear hg HB0
          by_cases hli : i < n
          · have hli2 : (i : Int) < (n : Int) := by omega
            have hi0 : (0 : Int) ≤ (i : Int) := Int.natCast_nonneg _
            obtain ⟨y, hy⟩ : ∃ y, y = a + i * 1 := ⟨_, rfl⟩
            obtain ⟨j, hj⟩ : ∃ j, j = y % n := ⟨_, rfl⟩
            have hjn : j < n := by rw [hj]; exact Nat.mod_lt _ (by omega)
            have hjn2 : (j : Int) < (n : Int) := by omega
            have hj0 : (0 : Int) ≤ (j : Int) := Int.natCast_nonneg _
            have hm1 : (y : Int) % (n : Int) = (j : Int) := by rw [hj]; rfl
            have hm2 : (y : Int).tmod (n : Int) = (j : Int) := by rw [hj]; rfl
            have hy9 : y ≤ 100 := by
              rw [hy]
              omega
            have w1 : IntKind.i64.wrap (i : Int) = (i : Int) := IntWalk.i64_in _ (by omega)
            have w2 : IntKind.i64.wrap ((a : Int) + (i : Int)) = (y : Int) := by rw [show (a : Int) + (i : Int) = (y : Int) by omega]; exact IntWalk.i64_in _ (by omega)
            obtain ⟨⟨p0, p1⟩, lb⟩ := CA.out i hli wr hb
            obtain ⟨⟨q0, q1⟩, lb2⟩ := CB.out j hjn wr hb
            have HBX := Lib.hid (hb.alloc hb.size (.cells #[.int .i64 (X i), .int .i64 (Y i)] 31))
            have hne : ¬ n = 0 := by omega
            have hne2 : ¬ (n : Int) = 0 := by omega
            have S0 := Lib.hid (newS 31 #[.int .i64 (X i), .int .i64 (Y i)] wr)
            have HEQ := Lib.hid (show stB X Y U V n 1 a (i + 1) = decide (U j = X i ∧ V j = Y i) from by rw [stB, HST.out, Bool.true_and, ← hy, ← hj])
            have HNO := Lib.hid (fun (h : ¬ (U j = X i ∧ V j = Y i)) => stB_no (X := X) (Y := Y) (U := U) (V := V) (n := n) (s := 1) (a := a) hli (by rw [← hy, ← hj]; exact h))
            clear hb hy hj
            by_cases hs : U j = X i ∧ V j = Y i
            · have HT := Lib.hid (show stB X Y U V n 1 a (i + 1) = true from HEQ.out.trans (decide_eq_true hs))
              rw [hs.1] at q0
              rw [hs.2] at q1
              clear hs HNO HEQ
              generalize X i = x at *
              generalize Y i = z at *
              have g1 : (x == x) = true := beq_iff_eq.mpr rfl
              have g2 : (z == z) = true := beq_iff_eq.mpr rfl
              go_upto_region 11 with fail
              generalize wr.alloc (.cells #[.int .i64 x, .int .i64 z] 31) = V2 at *
              obtain ⟨⟨-, -⟩, lv2⟩ := CA.out i hli V2 HBX.out
              have c0 : V2.cell? ⟨wr.heap.size, 0, none⟩ = some (.int .i64 x) := S0.out.cell 0
              have c1 : V2.cell? ⟨wr.heap.size, 1, none⟩ = some (.int .i64 z) := S0.out.cell 1
              have d0 : V2.cell? ⟨b2, o2 + j * 2, none⟩ = some (.int .i64 x) := (S0.out.1.cell (p := ⟨b2, o2 + j * 2, none⟩) lb2).trans q0
              have d1 : V2.cell? ⟨b2, o2 + j * 2 + 1, none⟩ = some (.int .i64 z) := (S0.out.1.cell (p := ⟨b2, o2 + j * 2 + 1, none⟩) lb2).trans q1
              go_quiet (fail)
              go_wp2_with fail
              go_roundg (n - (i + 1))
              case measure => have := HGI.out; omega
              case rel => exact ⟨i + 1, rfl, by omega, by go_num, aid.below_drewN HBX.out _, HT⟩
            · have HF := Lib.hid (show anB X Y U V n 1 (a + 1) = false from by rw [anB, HAN.out, HNO.out hs]; rfl)
              have g3 : (U j == X i && V j == Y i) = false := by
                rw [Bool.and_eq_false_iff]
                by_cases e : U j = X i
                · exact Or.inr (beq_eq_false_iff_ne.mpr (fun h => hs ⟨e, h⟩))
                · exact Or.inl (beq_eq_false_iff_ne.mpr e)
              clear HNO HEQ
              by_cases e1 : U j = X i
              · have g1 : (U j == X i) = true := beq_iff_eq.mpr e1
                have g2 : (V j == Y i) = false := beq_eq_false_iff_ne.mpr (fun h => hs ⟨e1, h⟩)
                generalize X i = x at *
                generalize Y i = z at *
                generalize U j = u at *
                generalize V j = v at *
                clear g3 hs e1
                go_upto_region 11 with fail
                generalize wr.alloc (.cells #[.int .i64 x, .int .i64 z] 31) = V2 at *
                have c0 : V2.cell? ⟨wr.heap.size, 0, none⟩ = some (.int .i64 x) := S0.out.cell 0
                have c1 : V2.cell? ⟨wr.heap.size, 1, none⟩ = some (.int .i64 z) := S0.out.cell 1
                have d0 : V2.cell? ⟨b2, o2 + j * 2, none⟩ = some (.int .i64 u) := (S0.out.1.cell (p := ⟨b2, o2 + j * 2, none⟩) lb2).trans q0
                have d1 : V2.cell? ⟨b2, o2 + j * 2 + 1, none⟩ = some (.int .i64 v) := (S0.out.1.cell (p := ⟨b2, o2 + j * 2 + 1, none⟩) lb2).trans q1
                go_quiet (fail)
                go_wp2_with fail
                go_roundg (n - (a + 1))
                case measure => have := HG.out; have := HLT.out; omega
                case rel => exact ⟨a + 1, rfl, by have := HLT.out; omega, by go_num, aid.below_drewN HBX.out _, HF⟩
              · have g1 : (U j == X i) = false := beq_eq_false_iff_ne.mpr e1
                generalize X i = x at *
                generalize Y i = z at *
                generalize U j = u at *
                generalize V j = v at *
                clear g3 hs e1
                go_upto_region 11 with fail
                generalize wr.alloc (.cells #[.int .i64 x, .int .i64 z] 31) = V2 at *
                have c0 : V2.cell? ⟨wr.heap.size, 0, none⟩ = some (.int .i64 x) := S0.out.cell 0
                have c1 : V2.cell? ⟨wr.heap.size, 1, none⟩ = some (.int .i64 z) := S0.out.cell 1
                have d0 : V2.cell? ⟨b2, o2 + j * 2, none⟩ = some (.int .i64 u) := (S0.out.1.cell (p := ⟨b2, o2 + j * 2, none⟩) lb2).trans q0
                have d1 : V2.cell? ⟨b2, o2 + j * 2 + 1, none⟩ = some (.int .i64 v) := (S0.out.1.cell (p := ⟨b2, o2 + j * 2 + 1, none⟩) lb2).trans q1
                go_quiet (fail)
                go_wp2_with fail
                go_roundg (n - (a + 1))
                case measure => have := HG.out; have := HLT.out; omega
                case rel => exact ⟨a + 1, rfl, by have := HLT.out; omega, by go_num, aid.below_drewN HBX.out _, HF⟩
          · obtain rfl : i = n := by omega
            have HT := Lib.hid (anB_of (X := X) (Y := Y) (U := U) (V := V) (n := i) (s := 1) (m := i) HLT.out HST.out)
            clear hb
            go_wp2_with fail
            try simp only [Exit.jump]
            go_ret
            exact ⟨by rw [HT.out]; simp, HB.out⟩
      · obtain rfl : a = n := by omega
        have HBE := Lib.hid hb
        clear hb
        go_wp2_with fail
        go_step3
        exact ⟨rfl, HBE.out, HAN, _, _, _, _, _, _, _, _, _, _, _, _, _, _, _, _, _, _, _, _, _, _, _, _, _, _, _, _, _, _, _, _, _, _, _, _, _, _, _, rfl⟩
  · rintro a' w' ⟨hbj, HF1, u4, u7, u8, u9, u10, u11, u12, u13, u14, u15, u16, u17, u18, u19, u20, u21, u22, u23, u24, u25, u26, u27, u28, u29, u30, u31, u32, u33, u34, u35, u36, u37, u38, u39, u40, u41, u42, u43, u44, rfl⟩
    clear BS
    have BS := Lib.hid hbj
    clear hbj
    go_wp2
    go_loopg [17] n (fun gk p wr => ∃ a : Nat, gk = n - a ∧ a ≤ n ∧ p = .int .i64 a ∧ Below w.heap.size w wr ∧ Hid (anB X Y U V n s a = false))
    case atStart => exact ⟨0, by omega, by omega, rfl, BS.out, Lib.hid rfl⟩
    case round =>
      obtain ⟨a, hg, ha, rfl, hb, HAN⟩ := hrel
      have HG := Lib.hid hg
      clear hg
      by_cases hlt : a < n
      · have hlt2 : (a : Int) < (n : Int) := by omega
        have HLT := Lib.hid hlt
        have HB0 := Lib.hid hb
        clear hb
        go_wp2_with fail
        rename_i wold
        go_loopg [22] n (fun gi p wr => ∃ i : Nat, gi = n - i ∧ i ≤ n ∧ p = .int .i64 i ∧ Below w.heap.size w wr ∧ Hid (stB X Y U V n s a i = true))
        case atStart => exact ⟨0, by omega, by omega, rfl, HB0.out, Lib.hid rfl⟩
        case round =>
          obtain ⟨i, hg, hi, rfl, hb, HST⟩ := hrel
          have HGI := Lib.hid hg
          have HB := Lib.hid hb
          clear hg HB0
          by_cases hli : i < n
          · have hli2 : (i : Int) < (n : Int) := by omega
            have hi0 : (0 : Int) ≤ (i : Int) := Int.natCast_nonneg _
            obtain ⟨y, hy⟩ : ∃ y, y = a + i * s := ⟨_, rfl⟩
            obtain ⟨j, hj⟩ : ∃ j, j = y % n := ⟨_, rfl⟩
            have hjn : j < n := by rw [hj]; exact Nat.mod_lt _ (by omega)
            have hjn2 : (j : Int) < (n : Int) := by omega
            have hj0 : (0 : Int) ≤ (j : Int) := Int.natCast_nonneg _
            have hm1 : (y : Int) % (n : Int) = (j : Int) := by rw [hj]; rfl
            have hm2 : (y : Int).tmod (n : Int) = (j : Int) := by rw [hj]; rfl
            have hy9 : y ≤ 100 := by
              rw [hy]
              have : i * s ≤ 8 * 8 := Nat.mul_le_mul (by omega) (by omega)
              omega
            have hmul : (i : Int) * (s : Int) = ((i * s : Nat) : Int) := by rw [Int.natCast_mul]
            have w1 : IntKind.i64.wrap ((i : Int) * (s : Int)) = (i : Int) * (s : Int) := by
              have : i * s ≤ 8 * 8 := Nat.mul_le_mul (by omega) (by omega)
              exact IntWalk.i64_in _ (by omega)
            have w2 : IntKind.i64.wrap ((a : Int) + (i : Int) * (s : Int)) = (y : Int) := by rw [show (a : Int) + (i : Int) * (s : Int) = (y : Int) by rw [hmul]; omega]; exact IntWalk.i64_in _ (by omega)
            clear hmul
            obtain ⟨⟨p0, p1⟩, lb⟩ := CA.out i hli wr hb
            obtain ⟨⟨q0, q1⟩, lb2⟩ := CB.out j hjn wr hb
            have HBX := Lib.hid (hb.alloc hb.size (.cells #[.int .i64 (X i), .int .i64 (Y i)] 31))
            have hne : ¬ n = 0 := by omega
            have hne2 : ¬ (n : Int) = 0 := by omega
            have S0 := Lib.hid (newS 31 #[.int .i64 (X i), .int .i64 (Y i)] wr)
            have HEQ := Lib.hid (show stB X Y U V n s a (i + 1) = decide (U j = X i ∧ V j = Y i) from by rw [stB, HST.out, Bool.true_and, ← hy, ← hj])
            have HNO := Lib.hid (fun (h : ¬ (U j = X i ∧ V j = Y i)) => stB_no (X := X) (Y := Y) (U := U) (V := V) (n := n) (s := s) (a := a) hli (by rw [← hy, ← hj]; exact h))
            clear hb hy hj
            by_cases hs : U j = X i ∧ V j = Y i
            · have HT := Lib.hid (show stB X Y U V n s a (i + 1) = true from HEQ.out.trans (decide_eq_true hs))
              rw [hs.1] at q0
              rw [hs.2] at q1
              clear hs HNO HEQ
              generalize X i = x at *
              generalize Y i = z at *
              have g1 : (x == x) = true := beq_iff_eq.mpr rfl
              have g2 : (z == z) = true := beq_iff_eq.mpr rfl
              go_upto_region 11 with fail
              generalize wr.alloc (.cells #[.int .i64 x, .int .i64 z] 31) = V2 at *
              obtain ⟨⟨-, -⟩, lv2⟩ := CA.out i hli V2 HBX.out
              have c0 : V2.cell? ⟨wr.heap.size, 0, none⟩ = some (.int .i64 x) := S0.out.cell 0
              have c1 : V2.cell? ⟨wr.heap.size, 1, none⟩ = some (.int .i64 z) := S0.out.cell 1
              have d0 : V2.cell? ⟨b2, o2 + j * 2, none⟩ = some (.int .i64 x) := (S0.out.1.cell (p := ⟨b2, o2 + j * 2, none⟩) lb2).trans q0
              have d1 : V2.cell? ⟨b2, o2 + j * 2 + 1, none⟩ = some (.int .i64 z) := (S0.out.1.cell (p := ⟨b2, o2 + j * 2 + 1, none⟩) lb2).trans q1
              go_quiet (fail)
              go_wp2_with fail
              go_roundg (n - (i + 1))
              case measure => have := HGI.out; omega
              case rel => exact ⟨i + 1, rfl, by omega, by go_num, aid.below_drewN HBX.out _, HT⟩
            · have HF := Lib.hid (show anB X Y U V n s (a + 1) = false from by rw [anB, HAN.out, HNO.out hs]; rfl)
              have g3 : (U j == X i && V j == Y i) = false := by
                rw [Bool.and_eq_false_iff]
                by_cases e : U j = X i
                · exact Or.inr (beq_eq_false_iff_ne.mpr (fun h => hs ⟨e, h⟩))
                · exact Or.inl (beq_eq_false_iff_ne.mpr e)
              clear HNO HEQ
              by_cases e1 : U j = X i
              · have g1 : (U j == X i) = true := beq_iff_eq.mpr e1
                have g2 : (V j == Y i) = false := beq_eq_false_iff_ne.mpr (fun h => hs ⟨e1, h⟩)
                generalize X i = x at *
                generalize Y i = z at *
                generalize U j = u at *
                generalize V j = v at *
                clear g3 hs e1
                go_upto_region 11 with fail
                generalize wr.alloc (.cells #[.int .i64 x, .int .i64 z] 31) = V2 at *
                have c0 : V2.cell? ⟨wr.heap.size, 0, none⟩ = some (.int .i64 x) := S0.out.cell 0
                have c1 : V2.cell? ⟨wr.heap.size, 1, none⟩ = some (.int .i64 z) := S0.out.cell 1
                have d0 : V2.cell? ⟨b2, o2 + j * 2, none⟩ = some (.int .i64 u) := (S0.out.1.cell (p := ⟨b2, o2 + j * 2, none⟩) lb2).trans q0
                have d1 : V2.cell? ⟨b2, o2 + j * 2 + 1, none⟩ = some (.int .i64 v) := (S0.out.1.cell (p := ⟨b2, o2 + j * 2 + 1, none⟩) lb2).trans q1
                go_quiet (fail)
                go_wp2_with fail
                go_roundg (n - (a + 1))
                case measure => have := HG.out; have := HLT.out; omega
                case rel => exact ⟨a + 1, rfl, by have := HLT.out; omega, by go_num, aid.below_drewN HBX.out _, HF⟩
              · have g1 : (U j == X i) = false := beq_eq_false_iff_ne.mpr e1
                generalize X i = x at *
                generalize Y i = z at *
                generalize U j = u at *
                generalize V j = v at *
                clear g3 hs e1
                go_upto_region 11 with fail
                generalize wr.alloc (.cells #[.int .i64 x, .int .i64 z] 31) = V2 at *
                have c0 : V2.cell? ⟨wr.heap.size, 0, none⟩ = some (.int .i64 x) := S0.out.cell 0
                have c1 : V2.cell? ⟨wr.heap.size, 1, none⟩ = some (.int .i64 z) := S0.out.cell 1
                have d0 : V2.cell? ⟨b2, o2 + j * 2, none⟩ = some (.int .i64 u) := (S0.out.1.cell (p := ⟨b2, o2 + j * 2, none⟩) lb2).trans q0
                have d1 : V2.cell? ⟨b2, o2 + j * 2 + 1, none⟩ = some (.int .i64 v) := (S0.out.1.cell (p := ⟨b2, o2 + j * 2 + 1, none⟩) lb2).trans q1
                go_quiet (fail)
                go_wp2_with fail
                go_roundg (n - (a + 1))
                case measure => have := HG.out; have := HLT.out; omega
                case rel => exact ⟨a + 1, rfl, by have := HLT.out; omega, by go_num, aid.below_drewN HBX.out _, HF⟩
          · obtain rfl : i = n := by omega
            have HT := Lib.hid (anB_of (X := X) (Y := Y) (U := U) (V := V) (n := i) (s := s) (m := i) HLT.out HST.out)
            clear hb
            go_wp2_with fail
            try simp only [Exit.jump]
            go_ret
            exact ⟨by rw [HF1.out, ← HSN.out, HT.out]; simp, HB.out⟩
      · obtain rfl : a = n := by omega
        have HBE := Lib.hid hb
        have hs1 : ((s : Int) == 1) = false := beq_eq_false_iff_ne.mpr (by omega)
        have hs3 : ¬ s = 1 := by omega
        clear hb
        go_wp2_with fail
        try simp only [Exit.jump]
        go_ret
        exact ⟨by rw [HF1.out, ← HSN.out, HAN.out]; simp, HBE.out⟩

end Go.Proofs.Ytkndfklbonkbiaa.scty
