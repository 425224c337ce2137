/- impl's makeBorder, whereIs and IsValidSector of chapter 17. -/
import Derived.Test.YtkndfklbonkbiaaSctB
namespace Go.Proofs.Ytkndfklbonkbiaa.sctc
open Go.RowKit Go.Proofs.Ytkndfklbonkbiaa.ints Go.Proofs.Ytkndfklbonkbiaa.lst Go.Proofs.Ytkndfklbonkbiaa.in_ Go.Proofs.Ytkndfklbonkbiaa.ats Go.Proofs.Ytkndfklbonkbiaa.pos Go.Proofs.Ytkndfklbonkbiaa.sct Go.Proofs.Ytkndfklbonkbiaa.sctt Go.Proofs.Ytkndfklbonkbiaa.sctv Go.Proofs.Ytkndfklbonkbiaa.scti Go.Proofs.Ytkndfklbonkbiaa.sctj Go.Proofs.Ytkndfklbonkbiaa.sctb

set_option maxRecDepth 100000 in
set_option maxHeartbeats 2000000 in
theorem makeBorder (X Y : Nat → Int) (A : Option Addr) (n c : Nat) (w : World) (hc : n ≤ c) (hn : n ≤ 1048576) (hp : ∀ k, k < n → pB (X k) (Y k) = true) (h1 : RdZ 4 w w.heap.size A n (sdL X Y n n)) :
    Calls Try.prog 58 #[.slice A n c] w fun e w' => e = .returned (.bool (mkB X Y n n)) ∧ Below w.heap.size w w' := by
  have HR := Lib.hid h1
  have HM := Lib.hid (fun i k (hi : i < n) (hk : k < n) (w : World) => scta.meets (X i) (Y i) (X ((i + 1) % n)) (Y ((i + 1) % n)) (X k) (Y k) (X ((k + 1) % n)) (Y ((k + 1) % n)) (hp i hi) (hp _ (Nat.mod_lt _ (Nat.lt_of_le_of_lt (Nat.zero_le _) hi))) (hp k hk) (hp _ (Nat.mod_lt _ (Nat.lt_of_le_of_lt (Nat.zero_le _) hi))) w)
  have HK := Lib.hid (fun i k (hi : i < n) (hk : k < n) (w : World) => scta.runsBackAlong (X i) (Y i) (X ((i + 1) % n)) (Y ((i + 1) % n)) (X k) (Y k) (X ((k + 1) % n)) (Y ((k + 1) % n)) (hp i hi) (hp _ (Nat.mod_lt _ (Nat.lt_of_le_of_lt (Nat.zero_le _) hi))) (hp k hk) (hp _ (Nat.mod_lt _ (Nat.lt_of_le_of_lt (Nat.zero_le _) hi))) w)
  clear hp h1
  go_enter Try.func58, Try.ntmps58
  go_wp2_with fail
  go_loopw [10] (fun t wr => ∃ i : Nat, i ≤ n ∧ t = .int .i64 i ∧ Below w.heap.size w wr ∧ mkB X Y n i = true) (fun t _ => n - (intOf t).toNat)
  case atStart => exact ⟨0, Nat.zero_le _, rfl, Below.refl _ _, rfl⟩
  case round =>
    obtain ⟨i, hi, rfl, hb, hmk⟩ := hrel
    by_cases hlt : i < n
    · obtain ⟨b1, o1, rfl, l1, p0, p1, p2, p3⟩ := cells4 (HR.out.below hb (Nat.le_refl _)) hlt
      have hlt2 : (i : Int) < (n : Int) := by omega
      have hic : (i : Int) ≤ (c : Int) := by omega
      have l2 : b1 < wr.heap.size := Nat.lt_of_lt_of_le l1 hb.size
      have HLT := Lib.hid hlt
      have S0 := Lib.hid (newS 103 #[.int .i64 (X i), .int .i64 (Y i), .int .i64 (X ((i + 1) % n)), .int .i64 (Y ((i + 1) % n))] wr)
      have BV := Lib.hid (hb.alloc hb.size (.cells #[.int .i64 (X i), .int .i64 (Y i), .int .i64 (X ((i + 1) % n)), .int .i64 (Y ((i + 1) % n))] 103))
      have HNo := Lib.hid (fun (h : mkS X Y n i i = false) => mkB_no hlt h)
      have HYe := Lib.hid (show mkB X Y n (i + 1) = mkS X Y n i i from by rw [mkB, hmk, Bool.true_and])
      clear hb hmk
      go_wp2_with fail
      generalize hV : wr.alloc (.cells #[.int .i64 (X i), .int .i64 (Y i), .int .i64 (X ((i + 1) % n)), .int .i64 (Y ((i + 1) % n))] 103) = V at *
      generalize hG : wr.heap.size = G at *
      have HG := Lib.hid hG
      clear hV hG p0 p1 p2 p3
      rename_i wold
      go_loopw [19] (fun t wr => ∃ k : Nat, k ≤ i ∧ t = .int .i64 k ∧ Below V.heap.size V wr ∧ mkS X Y n i k = true) (fun t _ => i - (intOf t).toNat)
      case atStart => exact ⟨0, Nat.zero_le _, rfl, Below.refl _ _, rfl⟩
      case round =>
        obtain ⟨k, hk, rfl, hb, hmk⟩ := hrel
        by_cases hlk : k < i
        · have hlk2 : (k : Int) < (i : Int) := by omega
          have HB := Lib.hid (BV.out.trans (hb.mono BV.out.size))
          obtain ⟨b2, o2, e2, l3, q0, q1, q2, q3⟩ := cells4 (HR.out.below HB.out (Nat.le_refl _)) (show k < n by omega)
          simp only [Option.some.injEq, Addr.mk.injEq, and_true] at e2
          obtain ⟨rfl, rfl⟩ := e2
          have l4 : b1 < wr.heap.size := Nat.lt_of_lt_of_le l3 HB.out.size
          have T0 := Lib.hid (S0.out.old hb)
          have S1 := Lib.hid (newS 103 #[.int .i64 (X k), .int .i64 (Y k), .int .i64 (X ((k + 1) % n)), .int .i64 (Y ((k + 1) % n))] wr)
          have T1 := Lib.hid (T0.out.alloc (.cells #[.int .i64 (X k), .int .i64 (Y k), .int .i64 (X ((k + 1) % n)), .int .i64 (Y ((k + 1) % n))] 103))
          have HS := Lib.hid (show mkS X Y n i (k + 1) = !tmB X Y n i k from by rw [mkS, hmk, Bool.true_and])
          have HF := Lib.hid (fun (h : tmB X Y n i k = true) => mkS_no hlk h)
          have ws : IntKind.i64.wrap ((i : Int) - (k : Int)) = (i : Int) - (k : Int) := IntWalk.i64_in _ (by omega)
          have wn : IntKind.i64.wrap ((n : Int) - 1) = (n : Int) - 1 := IntWalk.i64_in _ (by omega)
          have CM := Lib.hid (HM.out i k HLT.out (show k < n by omega))
          have CK := Lib.hid (HK.out i k HLT.out (show k < n by omega))
          have CL := Lib.hid (HK.out k i (show k < n by omega) HLT.out)
          have HVW := Lib.hid hb
          clear hb hmk
          have HBV := Lib.hid (show Below V.heap.size V wr from HVW.out)
          by_cases e1 : i - k = 1
          · have HQ := Lib.hid (show tmB X Y n i k = rbB (X i) (Y i) (X ((i + 1) % n)) (Y ((i + 1) % n)) (X k) (Y k) (X ((k + 1) % n)) (Y ((k + 1) % n)) from by unfold tmB; rw [if_pos e1])
            rw [HQ.out] at HS HF
            clear HQ
            have g1 : ((i : Int) - (k : Int) == 1) = true := beq_iff_eq.mpr (by omega)
            have g2 : (i : Int) - (k : Int) = 1 := by omega
            clear e1
            generalize rbB (X i) (Y i) (X ((i + 1) % n)) (Y ((i + 1) % n)) (X k) (Y k) (X ((k + 1) % n)) (Y ((k + 1) % n)) = tb at *
            generalize X i = ax at *
            generalize Y i = ay at *
            generalize X ((i + 1) % n) = bx at *
            generalize Y ((i + 1) % n) = by_ at *
            generalize X k = px at *
            generalize Y k = py at *
            generalize X ((k + 1) % n) = qx at *
            generalize Y ((k + 1) % n) = qy at *
            go_upto_region 11 with fail
            have W2 := Lib.hid (S1.out.1)
            generalize wr.alloc (.cells #[.int .i64 px, .int .i64 py, .int .i64 qx, .int .i64 qy] 103) = V2 at *
            have HB2 := Lib.hid (HB.out.trans (W2.out.mono HB.out.size))
            have HV2 := Lib.hid (HBV.out.trans (W2.out.mono HBV.out.size))
            have c0 : V2.cell? ⟨G, 0, none⟩ = some (.int .i64 ax) := T1.out.cell 0
            have c1 : V2.cell? ⟨G, 1, none⟩ = some (.int .i64 ay) := T1.out.cell 1
            have c2 : V2.cell? ⟨G, 2, none⟩ = some (.int .i64 bx) := T1.out.cell 2
            have c3 : V2.cell? ⟨G, 3, none⟩ = some (.int .i64 by_) := T1.out.cell 3
            have d0 : V2.cell? ⟨wr.heap.size, 0, none⟩ = some (.int .i64 px) := S1.out.cell 0
            have d1 : V2.cell? ⟨wr.heap.size, 1, none⟩ = some (.int .i64 py) := S1.out.cell 1
            have d2 : V2.cell? ⟨wr.heap.size, 2, none⟩ = some (.int .i64 qx) := S1.out.cell 2
            have d3 : V2.cell? ⟨wr.heap.size, 3, none⟩ = some (.int .i64 qy) := S1.out.cell 3
            clear q0 q1 q2 q3
            go_wp2_with fail
            clear c0 c1 c2 c3 d0 d1 d2 d3
            refine (CK.out _).mono ?_
            rintro e V3 ⟨rfl, hb3⟩
            have HB3 := Lib.hid (HB2.out.trans (hb3.mono HB2.out.size))
            have HV3 := Lib.hid (HV2.out.trans (hb3.mono HV2.out.size))
            clear hb3
            cases tb
            · have HT := Lib.hid (show mkS X Y n i (k + 1) = true from HS.out)
              clear HS HF
              go_wp2_with fail
              go_roundw
              case rel => exact ⟨k + 1, by omega, by go_num, HV3.out, HT.out⟩
              case measure => simp [intOf]; omega
            · have HT := Lib.hid (HNo.out (HF.out rfl))
              clear HS HF
              go_wp2_with fail
              go_ret
              exact ⟨by rw [HT.out]; rfl, HB3.out⟩
          have g1 : ((i : Int) - (k : Int) == 1) = false := beq_eq_false_iff_ne.mpr (by omega)
          have g3 : ¬ (i : Int) - (k : Int) = 1 := by omega
          by_cases e2 : i - k = n - 1
          · have HQ := Lib.hid (show tmB X Y n i k = rbB (X k) (Y k) (X ((k + 1) % n)) (Y ((k + 1) % n)) (X i) (Y i) (X ((i + 1) % n)) (Y ((i + 1) % n)) from by unfold tmB; rw [if_neg e1, if_pos e2])
            rw [HQ.out] at HS HF
            clear HQ
            have g2 : ((i : Int) - (k : Int) == (n : Int) - 1) = true := beq_iff_eq.mpr (by omega)
            have g4 : (i : Int) - (k : Int) = (n : Int) - 1 := by omega
            clear e1 e2
            generalize rbB (X k) (Y k) (X ((k + 1) % n)) (Y ((k + 1) % n)) (X i) (Y i) (X ((i + 1) % n)) (Y ((i + 1) % n)) = tb at *
            generalize X i = ax at *
            generalize Y i = ay at *
            generalize X ((i + 1) % n) = bx at *
            generalize Y ((i + 1) % n) = by_ at *
            generalize X k = px at *
            generalize Y k = py at *
            generalize X ((k + 1) % n) = qx at *
            generalize Y ((k + 1) % n) = qy at *
            go_upto_region 13 with fail
            have W2 := Lib.hid (S1.out.1)
            generalize wr.alloc (.cells #[.int .i64 px, .int .i64 py, .int .i64 qx, .int .i64 qy] 103) = V2 at *
            have HB2 := Lib.hid (HB.out.trans (W2.out.mono HB.out.size))
            have HV2 := Lib.hid (HBV.out.trans (W2.out.mono HBV.out.size))
            have c0 : V2.cell? ⟨G, 0, none⟩ = some (.int .i64 ax) := T1.out.cell 0
            have c1 : V2.cell? ⟨G, 1, none⟩ = some (.int .i64 ay) := T1.out.cell 1
            have c2 : V2.cell? ⟨G, 2, none⟩ = some (.int .i64 bx) := T1.out.cell 2
            have c3 : V2.cell? ⟨G, 3, none⟩ = some (.int .i64 by_) := T1.out.cell 3
            have d0 : V2.cell? ⟨wr.heap.size, 0, none⟩ = some (.int .i64 px) := S1.out.cell 0
            have d1 : V2.cell? ⟨wr.heap.size, 1, none⟩ = some (.int .i64 py) := S1.out.cell 1
            have d2 : V2.cell? ⟨wr.heap.size, 2, none⟩ = some (.int .i64 qx) := S1.out.cell 2
            have d3 : V2.cell? ⟨wr.heap.size, 3, none⟩ = some (.int .i64 qy) := S1.out.cell 3
            clear q0 q1 q2 q3
            go_wp2_with fail
            clear c0 c1 c2 c3 d0 d1 d2 d3
            refine (CL.out _).mono ?_
            rintro e V3 ⟨rfl, hb3⟩
            have HB3 := Lib.hid (HB2.out.trans (hb3.mono HB2.out.size))
            have HV3 := Lib.hid (HV2.out.trans (hb3.mono HV2.out.size))
            clear hb3
            cases tb
            · have HT := Lib.hid (show mkS X Y n i (k + 1) = true from HS.out)
              clear HS HF
              go_wp2_with fail
              go_roundw
              case rel => exact ⟨k + 1, by omega, by go_num, HV3.out, HT.out⟩
              case measure => simp [intOf]; omega
            · have HT := Lib.hid (HNo.out (HF.out rfl))
              clear HS HF
              go_wp2_with fail
              go_ret
              exact ⟨by rw [HT.out]; rfl, HB3.out⟩
          have g2 : ((i : Int) - (k : Int) == (n : Int) - 1) = false := beq_eq_false_iff_ne.mpr (by omega)
          have g4 : ¬ (i : Int) - (k : Int) = (n : Int) - 1 := by omega
          have HQ := Lib.hid (show tmB X Y n i k = meB (X i) (Y i) (X ((i + 1) % n)) (Y ((i + 1) % n)) (X k) (Y k) (X ((k + 1) % n)) (Y ((k + 1) % n)) from by unfold tmB; rw [if_neg e1, if_neg e2])
          rw [HQ.out] at HS HF
          clear HQ
          clear e1 e2
          generalize meB (X i) (Y i) (X ((i + 1) % n)) (Y ((i + 1) % n)) (X k) (Y k) (X ((k + 1) % n)) (Y ((k + 1) % n)) = tb at *
          generalize X i = ax at *
          generalize Y i = ay at *
          generalize X ((i + 1) % n) = bx at *
          generalize Y ((i + 1) % n) = by_ at *
          generalize X k = px at *
          generalize Y k = py at *
          generalize X ((k + 1) % n) = qx at *
          generalize Y ((k + 1) % n) = qy at *
          go_upto_region 9 with fail
          have W2 := Lib.hid (S1.out.1)
          generalize wr.alloc (.cells #[.int .i64 px, .int .i64 py, .int .i64 qx, .int .i64 qy] 103) = V2 at *
          have HB2 := Lib.hid (HB.out.trans (W2.out.mono HB.out.size))
          have HV2 := Lib.hid (HBV.out.trans (W2.out.mono HBV.out.size))
          have c0 : V2.cell? ⟨G, 0, none⟩ = some (.int .i64 ax) := T1.out.cell 0
          have c1 : V2.cell? ⟨G, 1, none⟩ = some (.int .i64 ay) := T1.out.cell 1
          have c2 : V2.cell? ⟨G, 2, none⟩ = some (.int .i64 bx) := T1.out.cell 2
          have c3 : V2.cell? ⟨G, 3, none⟩ = some (.int .i64 by_) := T1.out.cell 3
          have d0 : V2.cell? ⟨wr.heap.size, 0, none⟩ = some (.int .i64 px) := S1.out.cell 0
          have d1 : V2.cell? ⟨wr.heap.size, 1, none⟩ = some (.int .i64 py) := S1.out.cell 1
          have d2 : V2.cell? ⟨wr.heap.size, 2, none⟩ = some (.int .i64 qx) := S1.out.cell 2
          have d3 : V2.cell? ⟨wr.heap.size, 3, none⟩ = some (.int .i64 qy) := S1.out.cell 3
          clear q0 q1 q2 q3
          go_wp2_with fail
          clear c0 c1 c2 c3 d0 d1 d2 d3
          refine (CM.out _).mono ?_
          rintro e V3 ⟨rfl, hb3⟩
          have HB3 := Lib.hid (HB2.out.trans (hb3.mono HB2.out.size))
          have HV3 := Lib.hid (HV2.out.trans (hb3.mono HV2.out.size))
          clear hb3
          cases tb
          · have HT := Lib.hid (show mkS X Y n i (k + 1) = true from HS.out)
            clear HS HF
            go_wp2_with fail
            go_roundw
            case rel => exact ⟨k + 1, by omega, by go_num, HV3.out, HT.out⟩
            case measure => simp [intOf]; omega
          · have HT := Lib.hid (HNo.out (HF.out rfl))
            clear HS HF
            go_wp2_with fail
            go_ret
            exact ⟨by rw [HT.out]; rfl, HB3.out⟩
        · obtain rfl : k = i := by omega
          have HT := Lib.hid (HYe.out.trans hmk)
          have HBX := Lib.hid (BV.out.trans (hb.mono BV.out.size))
          clear hb hmk HYe HNo
          go_wp2_with fail
          go_roundw
          case rel => exact ⟨k + 1, by have := HLT.out; omega, by go_num, HBX.out, HT.out⟩
          case measure => simp [intOf]; omega
    · obtain rfl : i = n := by omega
      have HZ := Lib.hid hmk
      have HB := Lib.hid hb
      clear hb hmk HR
      go_wp2_with fail
      go_ret
      exact ⟨by rw [HZ.out]; rfl, HB.out⟩

/-- What whereIs reckons with: 2 where the parity of the first k sides is odd. -/
def whT (X Y : Nat → Int) (n : Nat) (px py : Int) (k : Nat) : Int := if par X Y n px py k then 2 else 0
theorem whT_no {X Y : Nat → Int} {n k : Nat} {px py : Int} (h : tog (X k) (Y k) (X ((k + 1) % n)) (Y ((k + 1) % n)) px py = false) : whT X Y n px py (k + 1) = whT X Y n px py k := by
  unfold whT
  rw [par, h]
  cases par X Y n px py k <;> rfl
theorem whT_yes {X Y : Nat → Int} {n k : Nat} {px py : Int} (h : tog (X k) (Y k) (X ((k + 1) % n)) (Y ((k + 1) % n)) px py = true) : whT X Y n px py (k + 1) = 2 - whT X Y n px py k := by
  unfold whT
  rw [par, h]
  cases par X Y n px py k <;> rfl
theorem whT_bd (X Y : Nat → Int) (n k : Nat) (px py : Int) : 0 ≤ whT X Y n px py k ∧ whT X Y n px py k ≤ 2 := by
  unfold whT
  split <;> omega
theorem wh_out {X Y : Nat → Int} {n : Nat} {px py : Int} (h : brd X Y n px py n = false) : whV X Y n px py = whT X Y n px py n := by
  unfold whV whT
  rw [h]; rfl
theorem wh_brd {X Y : Nat → Int} {n k : Nat} {px py : Int} (hk : k < n) (h : onB (X k) (Y k) (X ((k + 1) % n)) (Y ((k + 1) % n)) px py = true) : whV X Y n px py = 1 := by
  unfold whV
  rw [brd_of hk h]; rfl
set_option maxRecDepth 100000 in
set_option maxHeartbeats 2000000 in
theorem whereIs (zs : List Int) (px py : Int) (A : Option Addr) (n c : Nat) (w : World) (hn : n ≤ 1048576) (hp : ∀ k, k < n → pB (cX zs k) (cY zs k) = true) (hq : pB px py = true) (h1 : RdZ 2 w w.heap.size A n zs) :
    Calls Try.prog 50 #[.agg #[.int .i64 px, .int .i64 py], .slice A n c] w fun e w' => e = .returned (.int .i64 (whV (cX zs) (cY zs) n px py)) ∧ Below w.heap.size w w' := by
  have S0 := Lib.hid (newS 31 #[.int .i64 px, .int .i64 py] w)
  have C0 := Lib.hid (fun W (hb : Below w.heap.size w W) => sidesOf zs A n c W hn (h1.next hb))
  generalize cX zs = X at *
  generalize cY zs = Y at *
  have HH := Lib.hid (fun k (hk : k < n) (w : World) => scta.has (X k) (Y k) (X ((k + 1) % n)) (Y ((k + 1) % n)) px py (hp k hk) (hp _ (Nat.mod_lt _ (Nat.lt_of_le_of_lt (Nat.zero_le _) hk))) hq w)
  have HE := Lib.hid (fun k (hk : k < n) (w : World) => scta.isEastOf (X k) (Y k) (X ((k + 1) % n)) (Y ((k + 1) % n)) px py (hp k hk) (hp _ (Nat.mod_lt _ (Nat.lt_of_le_of_lt (Nat.zero_le _) hk))) hq w)
  clear hp hq h1
  go_enter Try.func50, Try.ntmps50
  go_wp2_with fail
  generalize w.alloc (.cells #[.int .i64 px, .int .i64 py] 31) = W0 at *
  refine (C0.out W0 S0.out.1).mono ?_
  rintro e V ⟨v, rfl, ho, hb⟩
  obtain ⟨A2, c2, rfl⟩ := own_sliceZ ho
  have HR := Lib.hid (RdZ.of_own ho (sdL_length X Y n n))
  have S1 := Lib.hid (S0.out.old hb)
  clear ho hb C0 S0
  go_wp2_with fail
  go_loopw [5, 11] (fun u t wr => ∃ k : Nat, k ≤ n ∧ t = .int .i64 k ∧ u = .int .i64 (whT X Y n px py k) ∧ Below V.heap.size V wr ∧ brd X Y n px py k = false) (fun _ t _ => n - (intOf t).toNat)
  case atStart => exact ⟨0, Nat.zero_le _, rfl, rfl, Below.refl _ _, rfl⟩
  case round =>
    obtain ⟨k, hk, rfl, rfl, hb, hbr⟩ := hrel
    by_cases hlt : k < n
    · obtain ⟨b1, o1, rfl, l1, p0, p1, p2, p3⟩ := cells4 (HR.out.below hb (Nat.le_refl _)) hlt
      have hlt2 : (k : Int) < (n : Int) := by omega
      have l2 : b1 < wr.heap.size := Nat.lt_of_lt_of_le l1 hb.size
      have S2 := Lib.hid (newS 103 #[.int .i64 (X k), .int .i64 (Y k), .int .i64 (X ((k + 1) % n)), .int .i64 (Y ((k + 1) % n))] wr)
      have HB := Lib.hid hb
      have T1 := Lib.hid (S1.out.old (hb.alloc hb.size (.cells #[.int .i64 (X k), .int .i64 (Y k), .int .i64 (X ((k + 1) % n)), .int .i64 (Y ((k + 1) % n))] 103)))
      have CH := Lib.hid (HH.out k hlt)
      have CE := Lib.hid (HE.out k hlt)
      have HW := Lib.hid (fun h => wh_brd (px := px) (py := py) (X := X) (Y := Y) hlt h)
      have HS := Lib.hid (show brd X Y n px py (k + 1) = onB (X k) (Y k) (X ((k + 1) % n)) (Y ((k + 1) % n)) px py from by rw [brd, hbr, Bool.false_or])
      have HY := Lib.hid (fun h => whT_yes (X := X) (Y := Y) (n := n) (k := k) (px := px) (py := py) h)
      have HN := Lib.hid (fun h => whT_no (X := X) (Y := Y) (n := n) (k := k) (px := px) (py := py) h)
      obtain ⟨f1, f2⟩ := whT_bd X Y n k px py
      have ws : IntKind.i64.wrap (2 - whT X Y n px py k) = 2 - whT X Y n px py k := IntWalk.i64_in _ (by omega)
      clear hb hbr
      generalize onB (X k) (Y k) (X ((k + 1) % n)) (Y ((k + 1) % n)) px py = tb at *
      generalize tog (X k) (Y k) (X ((k + 1) % n)) (Y ((k + 1) % n)) px py = te at *
      generalize X k = ax at *
      generalize Y k = ay at *
      generalize X ((k + 1) % n) = bx at *
      generalize Y ((k + 1) % n) = by_ at *
      generalize whT X Y n px py k = z0 at *
      cases tb
      case true =>
        go_upto_region 5 with fail
        have W2 := Lib.hid (S2.out.1)
        generalize wr.alloc (.cells #[.int .i64 ax, .int .i64 ay, .int .i64 bx, .int .i64 by_] 103) = V2 at *
        clear p0 p1 p2 p3
        have c0 : V2.cell? ⟨wr.heap.size, 0, none⟩ = some (.int .i64 ax) := S2.out.cell 0
        have c1 : V2.cell? ⟨wr.heap.size, 1, none⟩ = some (.int .i64 ay) := S2.out.cell 1
        have c2 : V2.cell? ⟨wr.heap.size, 2, none⟩ = some (.int .i64 bx) := S2.out.cell 2
        have c3 : V2.cell? ⟨wr.heap.size, 3, none⟩ = some (.int .i64 by_) := S2.out.cell 3
        have d0 : V2.cell? ⟨w.heap.size, 0, none⟩ = some (.int .i64 px) := T1.out.cell 0
        have d1 : V2.cell? ⟨w.heap.size, 1, none⟩ = some (.int .i64 py) := T1.out.cell 1
        go_wp2_with fail
        clear c0 c1 c2 c3 d0 d1
        refine (CH.out _).mono ?_
        rintro e V3 ⟨rfl, hb3⟩
        have S3 := Lib.hid (S2.out.old hb3)
        have T3 := Lib.hid (T1.out.old hb3)
        have HB3 := Lib.hid (HB.out.trans (S3.out.1.mono HB.out.size))
        clear hb3
        have HT := Lib.hid (HW.out (by first | trivial | rfl))
        go_wp2_with fail
        go_ret
        exact ⟨by rw [HT.out]; rfl, T3.out.1⟩
      cases te
      · go_upto_region 5 with fail
        have W2 := Lib.hid (S2.out.1)
        generalize wr.alloc (.cells #[.int .i64 ax, .int .i64 ay, .int .i64 bx, .int .i64 by_] 103) = V2 at *
        clear p0 p1 p2 p3
        have c0 : V2.cell? ⟨wr.heap.size, 0, none⟩ = some (.int .i64 ax) := S2.out.cell 0
        have c1 : V2.cell? ⟨wr.heap.size, 1, none⟩ = some (.int .i64 ay) := S2.out.cell 1
        have c2 : V2.cell? ⟨wr.heap.size, 2, none⟩ = some (.int .i64 bx) := S2.out.cell 2
        have c3 : V2.cell? ⟨wr.heap.size, 3, none⟩ = some (.int .i64 by_) := S2.out.cell 3
        have d0 : V2.cell? ⟨w.heap.size, 0, none⟩ = some (.int .i64 px) := T1.out.cell 0
        have d1 : V2.cell? ⟨w.heap.size, 1, none⟩ = some (.int .i64 py) := T1.out.cell 1
        go_wp2_with fail
        clear c0 c1 c2 c3 d0 d1
        refine (CH.out _).mono ?_
        rintro e V3 ⟨rfl, hb3⟩
        have S3 := Lib.hid (S2.out.old hb3)
        have T3 := Lib.hid (T1.out.old hb3)
        have HB3 := Lib.hid (HB.out.trans (S3.out.1.mono HB.out.size))
        clear hb3
        have c0 : V3.cell? ⟨wr.heap.size, 0, none⟩ = some (.int .i64 ax) := S3.out.cell 0
        have c1 : V3.cell? ⟨wr.heap.size, 1, none⟩ = some (.int .i64 ay) := S3.out.cell 1
        have c2 : V3.cell? ⟨wr.heap.size, 2, none⟩ = some (.int .i64 bx) := S3.out.cell 2
        have c3 : V3.cell? ⟨wr.heap.size, 3, none⟩ = some (.int .i64 by_) := S3.out.cell 3
        have d0 : V3.cell? ⟨w.heap.size, 0, none⟩ = some (.int .i64 px) := T3.out.cell 0
        have d1 : V3.cell? ⟨w.heap.size, 1, none⟩ = some (.int .i64 py) := T3.out.cell 1
        go_wp2_with fail
        clear c0 c1 c2 c3 d0 d1
        refine (CE.out _).mono ?_
        rintro e V4 ⟨rfl, hb4⟩
        have HB4 := Lib.hid (HB3.out.trans (hb4.mono HB3.out.size))
        have HT := Lib.hid HS.out
        have HZ := Lib.hid (HN.out (by first | trivial | rfl))
        clear hb4
        go_wp2_with fail
        go_roundw
        case rel => exact ⟨k + 1, by omega, by go_num, by rw [HZ.out], HB4.out, HT.out⟩
        case measure => simp [intOf]; omega
      · go_upto_region 5 with fail
        have W2 := Lib.hid (S2.out.1)
        generalize wr.alloc (.cells #[.int .i64 ax, .int .i64 ay, .int .i64 bx, .int .i64 by_] 103) = V2 at *
        clear p0 p1 p2 p3
        have c0 : V2.cell? ⟨wr.heap.size, 0, none⟩ = some (.int .i64 ax) := S2.out.cell 0
        have c1 : V2.cell? ⟨wr.heap.size, 1, none⟩ = some (.int .i64 ay) := S2.out.cell 1
        have c2 : V2.cell? ⟨wr.heap.size, 2, none⟩ = some (.int .i64 bx) := S2.out.cell 2
        have c3 : V2.cell? ⟨wr.heap.size, 3, none⟩ = some (.int .i64 by_) := S2.out.cell 3
        have d0 : V2.cell? ⟨w.heap.size, 0, none⟩ = some (.int .i64 px) := T1.out.cell 0
        have d1 : V2.cell? ⟨w.heap.size, 1, none⟩ = some (.int .i64 py) := T1.out.cell 1
        go_wp2_with fail
        clear c0 c1 c2 c3 d0 d1
        refine (CH.out _).mono ?_
        rintro e V3 ⟨rfl, hb3⟩
        have S3 := Lib.hid (S2.out.old hb3)
        have T3 := Lib.hid (T1.out.old hb3)
        have HB3 := Lib.hid (HB.out.trans (S3.out.1.mono HB.out.size))
        clear hb3
        have c0 : V3.cell? ⟨wr.heap.size, 0, none⟩ = some (.int .i64 ax) := S3.out.cell 0
        have c1 : V3.cell? ⟨wr.heap.size, 1, none⟩ = some (.int .i64 ay) := S3.out.cell 1
        have c2 : V3.cell? ⟨wr.heap.size, 2, none⟩ = some (.int .i64 bx) := S3.out.cell 2
        have c3 : V3.cell? ⟨wr.heap.size, 3, none⟩ = some (.int .i64 by_) := S3.out.cell 3
        have d0 : V3.cell? ⟨w.heap.size, 0, none⟩ = some (.int .i64 px) := T3.out.cell 0
        have d1 : V3.cell? ⟨w.heap.size, 1, none⟩ = some (.int .i64 py) := T3.out.cell 1
        go_wp2_with fail
        clear c0 c1 c2 c3 d0 d1
        refine (CE.out _).mono ?_
        rintro e V4 ⟨rfl, hb4⟩
        have HB4 := Lib.hid (HB3.out.trans (hb4.mono HB3.out.size))
        have HT := Lib.hid HS.out
        have HZ := Lib.hid (HY.out (by first | trivial | rfl))
        clear hb4
        go_wp2_with fail
        go_roundw
        case rel => exact ⟨k + 1, by omega, by go_num, by rw [HZ.out], HB4.out, HT.out⟩
        case measure => simp [intOf]; omega
    · obtain rfl : k = n := by omega
      have HZ := Lib.hid (wh_out hbr)
      have HB := Lib.hid (S1.out.old hb)
      clear hb hbr HR
      go_wp2_with fail
      go_ret
      exact ⟨by rw [HZ.out]; rfl, HB.out.1⟩

theorem own_capZ {w : World} {B e s n : Nat} {v : Value} {xs : List Value} (h : w.ownsRow B e s v n xs) : ∃ A c, v = .slice A n c ∧ n ≤ c := by
  rcases h.2 with ⟨rfl, h0⟩ | ⟨g, cap, cur, rfl, _, _, hle, _⟩
  · exact ⟨_, _, by rw [h0], by omega⟩
  · exact ⟨_, _, rfl, hle⟩
set_option maxRecDepth 100000 in
set_option maxHeartbeats 2000000 in
theorem isValidSector (d : Int) (zs : List Int) (A : Option Addr) (n c : Nat) (w : World) (hc : n ≤ c) (hn : n ≤ 1048576) (h1 : RdZ 2 w w.heap.size A n zs) :
    Calls Try.prog 20 #[.agg #[.int .i64 d, .slice A n c]] w fun e w' => e = .returned (.bool (seB d (cX zs) (cY zs) n)) ∧ Below w.heap.size w w' := by
  rw [se_is]
  have S0 := Lib.hid (newS 42 #[.int .i64 d, .slice A n c] w)
  have C0 := Lib.hid (fun W (hb : Below w.heap.size w W) => areAllPlaces zs A n c W (by omega) (h1.next hb))
  have C1 := Lib.hid (fun W (hb : Below w.heap.size w W) => areDifferent zs A n c W hc (by omega) (h1.next hb))
  have C2 := Lib.hid (fun W (hb : Below w.heap.size w W) => sidesOf zs A n c W hn (h1.next hb))
  have C3 := Lib.hid (fun (hp : plA (cX zs) (cY zs) n = true) B q W (ho : RdZ 4 W W.heap.size B n (sdL (cX zs) (cY zs) n n)) (hq : n ≤ q) => makeBorder (cX zs) (cY zs) B n q W hq hn (fun k hk => plA_at hp hk) ho)
  have HL := Lib.hid (sdL_length (cX zs) (cY zs) n n)
  clear h1
  generalize hq2 : plA (cX zs) (cY zs) n = q2 at *
  generalize dfA (cX zs) (cY zs) n = q3 at *
  generalize mkB (cX zs) (cY zs) n n = q4 at *
  generalize sdL (cX zs) (cY zs) n n = L at *
  clear hq2
  unfold isIn
  by_cases h0 : 1 ≤ d
  case neg =>
    rw [show decide (1 ≤ d ∧ d ≤ 99) = false from decide_eq_false (fun h => h0 h.1)]
    go_enter Try.func20, Try.ntmps20
    go_wp2_with fail
    go_ret
    exact ⟨rfl, S0.out.1⟩
  by_cases h1 : d ≤ 99
  case neg =>
    rw [show decide (1 ≤ d ∧ d ≤ 99) = false from decide_eq_false (fun h => h1 h.2)]
    go_enter Try.func20, Try.ntmps20
    go_wp2_with fail
    go_ret
    exact ⟨rfl, S0.out.1⟩
  rw [show decide (1 ≤ d ∧ d ≤ 99) = true from decide_eq_true ⟨h0, h1⟩]
  by_cases h2 : 3 ≤ (n : Int)
  case neg =>
    rw [show decide (3 ≤ (n : Int) ∧ (n : Int) ≤ 8) = false from decide_eq_false (fun h => h2 h.1)]
    have h2' : ¬ 3 ≤ n := by omega
    go_enter Try.func20, Try.ntmps20
    go_wp2_with fail
    go_ret
    exact ⟨rfl, S0.out.1⟩
  by_cases h3 : (n : Int) ≤ 8
  case neg =>
    rw [show decide (3 ≤ (n : Int) ∧ (n : Int) ≤ 8) = false from decide_eq_false (fun h => h3 h.2)]
    have h2' : 3 ≤ n := by omega
    have h3' : ¬ n ≤ 8 := by omega
    go_enter Try.func20, Try.ntmps20
    go_wp2_with fail
    go_ret
    exact ⟨rfl, S0.out.1⟩
  rw [show decide (3 ≤ (n : Int) ∧ (n : Int) ≤ 8) = true from decide_eq_true ⟨h2, h3⟩]
  have h2' : 3 ≤ n := by omega
  have h3' : n ≤ 8 := by omega
  cases q2
  · go_enter Try.func20, Try.ntmps20
    go_wp2_with fail
    generalize (w.alloc (.cells #[.int .i64 d, .slice A n c] 42)) = W0 at *
    have AN0 := Lib.hid (Below.refl W0.heap.size W0)
    refine (C0.out W0 (S0.out.1.trans (AN0.out.mono S0.out.1.size))).mono ?_
    rintro e V1 ⟨rfl, hb1⟩
    have AN1 := Lib.hid (AN0.out.trans (hb1.mono AN0.out.size))
    clear hb1
    have BX := Lib.hid (S0.out.1.trans (AN1.out.mono S0.out.1.size))
    go_wp2_with fail
    go_ret
    exact ⟨rfl, BX.out⟩
  cases q3
  · go_enter Try.func20, Try.ntmps20
    go_wp2_with fail
    generalize (w.alloc (.cells #[.int .i64 d, .slice A n c] 42)) = W0 at *
    have AN0 := Lib.hid (Below.refl W0.heap.size W0)
    refine (C0.out W0 (S0.out.1.trans (AN0.out.mono S0.out.1.size))).mono ?_
    rintro e V1 ⟨rfl, hb1⟩
    have AN1 := Lib.hid (AN0.out.trans (hb1.mono AN0.out.size))
    clear hb1
    have c00 : V1.cell? ⟨w.heap.size, 0, none⟩ = some (.int .i64 d) := (S0.out.old AN1.out).cell 0
    have c01 : V1.cell? ⟨w.heap.size, 1, none⟩ = some (.slice A n c) := (S0.out.old AN1.out).cell 1
    go_wp2_with fail
    clear c00 c01
    refine (C1.out V1 (S0.out.1.trans (AN1.out.mono S0.out.1.size))).mono ?_
    rintro e V2 ⟨rfl, hb2⟩
    have AN2 := Lib.hid (AN1.out.trans (hb2.mono AN1.out.size))
    clear hb2
    have BX := Lib.hid (S0.out.1.trans (AN2.out.mono S0.out.1.size))
    go_wp2_with fail
    go_ret
    exact ⟨rfl, BX.out⟩
  go_enter Try.func20, Try.ntmps20
  go_wp2_with fail
  generalize (w.alloc (.cells #[.int .i64 d, .slice A n c] 42)) = W0 at *
  have AN0 := Lib.hid (Below.refl W0.heap.size W0)
  refine (C0.out W0 (S0.out.1.trans (AN0.out.mono S0.out.1.size))).mono ?_
  rintro e V1 ⟨rfl, hb1⟩
  have AN1 := Lib.hid (AN0.out.trans (hb1.mono AN0.out.size))
  clear hb1
  have c00 : V1.cell? ⟨w.heap.size, 0, none⟩ = some (.int .i64 d) := (S0.out.old AN1.out).cell 0
  have c01 : V1.cell? ⟨w.heap.size, 1, none⟩ = some (.slice A n c) := (S0.out.old AN1.out).cell 1
  go_wp2_with fail
  clear c00 c01
  refine (C1.out V1 (S0.out.1.trans (AN1.out.mono S0.out.1.size))).mono ?_
  rintro e V2 ⟨rfl, hb2⟩
  have AN2 := Lib.hid (AN1.out.trans (hb2.mono AN1.out.size))
  clear hb2
  have c00 : V2.cell? ⟨w.heap.size, 0, none⟩ = some (.int .i64 d) := (S0.out.old AN2.out).cell 0
  have c01 : V2.cell? ⟨w.heap.size, 1, none⟩ = some (.slice A n c) := (S0.out.old AN2.out).cell 1
  go_wp2_with fail
  clear c00 c01
  refine (C2.out V2 (S0.out.1.trans (AN2.out.mono S0.out.1.size))).mono ?_
  rintro e V3 ⟨v, rfl, ho, hb3⟩
  have AN3 := Lib.hid (AN2.out.trans (hb3.mono AN2.out.size))
  clear hb3
  obtain ⟨A2, e2, rfl, hcap⟩ := own_capZ ho
  have HR := Lib.hid (RdZ.of_own ho HL.out)
  have HC := Lib.hid hcap
  clear ho hcap
  go_wp2_with fail
  refine (C3.out (by first | trivial | rfl) _ _ _ HR.out HC.out).mono ?_
  rintro e V9 ⟨rfl, hb9⟩
  have AN9 := Lib.hid (AN3.out.trans (hb9.mono AN3.out.size))
  clear hb9
  have BX := Lib.hid (S0.out.1.trans (AN9.out.mono S0.out.1.size))
  go_wp2_with fail
  go_ret
  exact ⟨rfl, BX.out⟩
end Go.Proofs.Ytkndfklbonkbiaa.sctc
