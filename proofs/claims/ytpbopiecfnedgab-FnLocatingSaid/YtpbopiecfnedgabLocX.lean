/- FittingBox of both. -/
import Derived.Laws.Small
import Derived.Test.YtpbopiecfnedgabLocS
import Derived.Test.YtpbopiecfnedgabLocI
import Derived.Test.YtpbopiecfnedgabTailH
namespace Go.Proofs.Ytpbopiecfnedgab.locx
open Go.RowKit Go.Proofs.Ytpbopiecfnedgab.tailh Go.Proofs.Ytpbopiecfnedgab.ints Go.Proofs.Ytpbopiecfnedgab.lst Go.Proofs.Ytpbopiecfnedgab.sit Go.Proofs.Ytpbopiecfnedgab.in_ Go.Proofs.Ytpbopiecfnedgab.ats Go.Proofs.Ytpbopiecfnedgab.sits Go.Proofs.Ytpbopiecfnedgab.loc Go.Proofs.Ytpbopiecfnedgab.locs

theorem results_cct {fn : Func} {p q r : Tmp} {ty ty' : TypeId} (h : fn.results = #[.cell p ty, .cell q ty', .tmp r]) (tmps : Array Value) (P : Program) (w : World) :
    (results fn tmps).run P w = ((asAddr (tmps.getD p undef)).run P w).andThen fun a w₁ => ((loadVar ty a).run P w₁).andThen fun v w₂ => ((asAddr (tmps.getD q undef)).run P w₂).andThen fun b w₃ => ((loadVar ty' b).run P w₃).andThen fun u w₄ => .ok (.tuple #[v, u, tmps.getD r undef]) w₄ := by
  simp only [results, h]
  simp [Sem.run_bind, Result.andThen]

theorem lo_min (fs : List Int) (c k : Nat) : loT fs c k = min (loT fs c (k - 1)) (fld 2 fs k c) := by
  cases k with
  | zero => show fld 2 fs 0 c = min (fld 2 fs 0 c) (fld 2 fs 0 c); omega
  | succ k => rfl
theorem hi_max (fs : List Int) (c k : Nat) : hiT fs c k = max (hiT fs c (k - 1)) (fld 2 fs k c) := by
  cases k with
  | zero => show fld 2 fs 0 c = max (fld 2 fs 0 c) (fld 2 fs 0 c); omega
  | succ k => rfl
theorem fb_no {zs xs : List Int} {n m : Nat} {t : Int} (h : ftN zs n xs m t = 0) : fbB zs n xs m t = false ∧ loV zs n xs m t 0 = 0 ∧ loV zs n xs m t 1 = 0 ∧ hiV zs n xs m t 0 = 0 ∧ hiV zs n xs m t 1 = 0 := by
  have e : fbB zs n xs m t = false := by unfold fbB; rw [h]; rfl
  exact ⟨e, lo_no e, lo_no e, hi_no e, hi_no e⟩
theorem fb_yes {zs xs : List Int} {n m : Nat} {t : Int} (h : 0 < ftN zs n xs m t) : fbB zs n xs m t = true ∧ loV zs n xs m t 0 = loT (ftV zs n xs m t) 0 (ftN zs n xs m t - 1) ∧ loV zs n xs m t 1 = loT (ftV zs n xs m t) 1 (ftN zs n xs m t - 1) ∧ hiV zs n xs m t 0 = hiT (ftV zs n xs m t) 0 (ftN zs n xs m t - 1) ∧ hiV zs n xs m t 1 = hiT (ftV zs n xs m t) 1 (ftN zs n xs m t - 1) := by
  have e : fbB zs n xs m t = true := by unfold fbB; rw [decide_eq_true h]
  exact ⟨e, lo_yes e, lo_yes e, hi_yes e, hi_yes e⟩

set_option maxRecDepth 100000 in
set_option maxHeartbeats 8000000 in
theorem boxI (zs xs : List Int) (t : Int) (A C : Option Addr) (n c m q : Nat) (w : World) (hc : n ≤ c) (hn : n ≤ 1048576) (hm : m ≤ 1048576) (h1 : RdZ 2 w w.heap.size A n zs) (h2 : RdI w w.heap.size C m xs) :
    Calls Try.prog 33 #[.slice A n c, .slice C m q, .int .i64 t] w fun e w' => e = .returned (.tuple #[.agg #[.int .i64 (loV zs n xs m t 0), .int .i64 (loV zs n xs m t 1)], .agg #[.int .i64 (hiV zs n xs m t 0), .int .i64 (hiV zs n xs m t 1)], .bool (fbB zs n xs m t)]) ∧ Below w.heap.size w w' := by
  have X1 := Lib.hid ((newS 32 #[.int .i64 0, .int .i64 0] w).alloc (.cells #[.int .i64 0, .int .i64 0] 32))
  have X2 := (newS 32 #[.int .i64 0, .int .i64 0] w).next 32 #[.int .i64 0, .int .i64 0]
  rw [World.size_alloc] at X2
  have X2 := Lib.hid X2
  have CC := Lib.hid (fun W (hb : Below w.heap.size w W) => loci.fittingPoints zs xs t A C n c m q W hc hn hm (h1.next hb) (h2.next hb))
  clear h1 h2
  rcases Nat.eq_zero_or_pos (ftN zs n xs m t) with h0 | hN
  · have HV := Lib.hid (fb_no h0)
    rw [h0] at CC
    cases hq : ltB zs n xs m t
    · rw [hq] at CC
      clear h0 hq
      go_enter Try.func33, Try.ntmps33
      go_wp2_with fail
      generalize (w.alloc (.cells #[.int .i64 0, .int .i64 0] 32)).alloc (.cells #[.int .i64 0, .int .i64 0] 32) = W0 at *
      refine (CC.out W0 X1.out.1).mono ?_
      rintro e V0 ⟨v, rfl, ho, hb⟩
      obtain ⟨A3, c3, rfl⟩ := own_sliceZ ho
      have Y1 := Lib.hid (X1.out.old hb)
      have Y2 := Lib.hid (X2.out.old hb)
      clear hb X1 X2 CC
      clear ho
      have c0_ : V0.cell? ⟨w.heap.size, 0, none⟩ = some (.int .i64 0) := Y1.out.cell 0
      have c1_ : V0.cell? ⟨w.heap.size, 1, none⟩ = some (.int .i64 0) := Y1.out.cell 1
      have f0_ : V0.frozen? ⟨w.heap.size, 0, none⟩ = false := Y1.out.frozen 0
      have f1_ : V0.frozen? ⟨w.heap.size, 1, none⟩ = false := Y1.out.frozen 1
      have d0_ : V0.cell? ⟨w.heap.size + 1, 0, none⟩ = some (.int .i64 0) := Y2.out.cell 0
      have d1_ : V0.cell? ⟨w.heap.size + 1, 1, none⟩ = some (.int .i64 0) := Y2.out.cell 1
      have g0_ : V0.frozen? ⟨w.heap.size + 1, 0, none⟩ = false := Y2.out.frozen 0
      have g1_ : V0.frozen? ⟨w.heap.size + 1, 1, none⟩ = false := Y2.out.frozen 1
      have HE := Lib.hid ((((Y1.out.set 0 (.int .i64 0)).set 1 (.int .i64 0)).other (b' := w.heap.size + 1) (Nat.le_succ _) (by omega) 0 (.int .i64 0)).other (b' := w.heap.size + 1) (Nat.le_succ _) (by omega) 1 (.int .i64 0))
      have HF := Lib.hid ((((Y2.out.other (b' := w.heap.size) (Nat.le_refl _) (by omega) 0 (.int .i64 0)).other (b' := w.heap.size) (Nat.le_refl _) (by omega) 1 (.int .i64 0)).set 0 (.int .i64 0)).set 1 (.int .i64 0))
      clear Y1 Y2
      go_wp2_with fail
      have hl := HE.out.load Try.underlying32 rfl (by kernel_rfl)
      have hm := HF.out.load Try.underlying32 rfl (by kernel_rfl)
      refine bodyPost_ret (v := .tuple #[.agg #[.int .i64 0, .int .i64 0], .agg #[.int .i64 0, .int .i64 0], .bool false]) ?_ rfl ⟨by rw [HV.out.1, HV.out.2.1, HV.out.2.2.1, HV.out.2.2.2.1, HV.out.2.2.2.2], HE.out.1⟩
      rw [results_cct rfl]
      simp [asAddr, Result.andThen, hl, hm]
    · rw [hq] at CC
      clear h0 hq
      go_enter Try.func33, Try.ntmps33
      go_wp2_with fail
      generalize (w.alloc (.cells #[.int .i64 0, .int .i64 0] 32)).alloc (.cells #[.int .i64 0, .int .i64 0] 32) = W0 at *
      refine (CC.out W0 X1.out.1).mono ?_
      rintro e V0 ⟨v, rfl, ho, hb⟩
      obtain ⟨A3, c3, rfl⟩ := own_sliceZ ho
      have Y1 := Lib.hid (X1.out.old hb)
      have Y2 := Lib.hid (X2.out.old hb)
      clear hb X1 X2 CC
      clear ho
      have c0_ : V0.cell? ⟨w.heap.size, 0, none⟩ = some (.int .i64 0) := Y1.out.cell 0
      have c1_ : V0.cell? ⟨w.heap.size, 1, none⟩ = some (.int .i64 0) := Y1.out.cell 1
      have f0_ : V0.frozen? ⟨w.heap.size, 0, none⟩ = false := Y1.out.frozen 0
      have f1_ : V0.frozen? ⟨w.heap.size, 1, none⟩ = false := Y1.out.frozen 1
      have d0_ : V0.cell? ⟨w.heap.size + 1, 0, none⟩ = some (.int .i64 0) := Y2.out.cell 0
      have d1_ : V0.cell? ⟨w.heap.size + 1, 1, none⟩ = some (.int .i64 0) := Y2.out.cell 1
      have g0_ : V0.frozen? ⟨w.heap.size + 1, 0, none⟩ = false := Y2.out.frozen 0
      have g1_ : V0.frozen? ⟨w.heap.size + 1, 1, none⟩ = false := Y2.out.frozen 1
      have HE := Lib.hid ((((Y1.out.set 0 (.int .i64 0)).set 1 (.int .i64 0)).other (b' := w.heap.size + 1) (Nat.le_succ _) (by omega) 0 (.int .i64 0)).other (b' := w.heap.size + 1) (Nat.le_succ _) (by omega) 1 (.int .i64 0))
      have HF := Lib.hid ((((Y2.out.other (b' := w.heap.size) (Nat.le_refl _) (by omega) 0 (.int .i64 0)).other (b' := w.heap.size) (Nat.le_refl _) (by omega) 1 (.int .i64 0)).set 0 (.int .i64 0)).set 1 (.int .i64 0))
      clear Y1 Y2
      go_wp2_with fail
      have hl := HE.out.load Try.underlying32 rfl (by kernel_rfl)
      have hm := HF.out.load Try.underlying32 rfl (by kernel_rfl)
      refine bodyPost_ret (v := .tuple #[.agg #[.int .i64 0, .int .i64 0], .agg #[.int .i64 0, .int .i64 0], .bool false]) ?_ rfl ⟨by rw [HV.out.1, HV.out.2.1, HV.out.2.2.1, HV.out.2.2.2.1, HV.out.2.2.2.2], HE.out.1⟩
      rw [results_cct rfl]
      simp [asAddr, Result.andThen, hl, hm]
  have hq : ltB zs n xs m t = true := by
    cases hq : ltB zs n xs m t
    · rw [ftN_no hq] at hN; omega
    · rfl
  have HV := Lib.hid (fb_yes hN)
  have HLN := Lib.hid (ftV_length zs n xs m t)
  have hN9 := ftN_le zs n xs m t
  rw [hq] at CC
  clear hq
  generalize ftV zs n xs m t = L at *
  generalize ftN zs n xs m t = N at *
  go_enter Try.func33, Try.ntmps33
  go_wp2_with fail
  generalize (w.alloc (.cells #[.int .i64 0, .int .i64 0] 32)).alloc (.cells #[.int .i64 0, .int .i64 0] 32) = W0 at *
  refine (CC.out W0 X1.out.1).mono ?_
  rintro e V0 ⟨v, rfl, ho, hb⟩
  obtain ⟨A3, c3, rfl⟩ := own_sliceZ ho
  have Y1 := Lib.hid (X1.out.old hb)
  have Y2 := Lib.hid (X2.out.old hb)
  clear hb X1 X2 CC
  have RX := Lib.hid (RdZ.of_own ho HLN.out)
  obtain ⟨b, o, rfl, lb, p0, p1⟩ := cells2 RX.out hN
  rw [Nat.zero_mul, Nat.add_zero] at p0 p1
  have CK := Lib.hid (fun k (hk : k < N) WZ (hb : Below V0.heap.size V0 WZ) => show WZ.cell? ⟨b, o + k * 2, none⟩ = some (.int .i64 (fld 2 L k 0)) ∧ WZ.cell? ⟨b, o + k * 2 + 1, none⟩ = some (.int .i64 (fld 2 L k 1)) from by
    obtain ⟨b', o', he, lb', q0, q1⟩ := cells2 RX.out hk
    simp only [Option.some.injEq, Addr.mk.injEq, and_true] at he
    obtain ⟨rfl, rfl⟩ := he
    exact ⟨(hb.cell (p := ⟨_, _, none⟩) lb').trans q0, (hb.cell (p := ⟨_, _, none⟩) lb').trans q1⟩)
  have C0 := Lib.hid (fun WZ (hb : Below V0.heap.size V0 WZ) => show WZ.cell? ⟨b, o, none⟩ = some (.int .i64 (fld 2 L 0 0)) ∧ WZ.cell? ⟨b, o + 1, none⟩ = some (.int .i64 (fld 2 L 0 1)) from ⟨(hb.cell (p := ⟨b, o, none⟩) lb).trans p0, (hb.cell (p := ⟨b, o + 1, none⟩) lb).trans p1⟩)
  have HN9 := Lib.hid hN9
  have lv7 := Y2.out.2.2.1
  have hN2 : (0 : Int) < (N : Int) := by omega
  have hN3 : ((N : Int) == 0) = false := beq_eq_false_iff_ne.mpr (by omega)
  clear p0 p1 ho RX
  generalize hx0 : fld 2 L 0 0 = x0 at *
  generalize hy0 : fld 2 L 0 1 = y0 at *
  have HX0 := Lib.hid hx0
  have HY0 := Lib.hid hy0
  clear hx0 hy0
  have XA := Lib.hid ((newS 32 #[.int .i64 x0, .int .i64 y0] V0).alloc (.cells #[.int .i64 x0, .int .i64 y0] 32))
  have XB := (newS 32 #[.int .i64 x0, .int .i64 y0] V0).next 32 #[.int .i64 x0, .int .i64 y0]
  rw [World.size_alloc] at XB
  have XB := Lib.hid XB
  go_upto_region 4 with fail
  go_cut [11, 12] from 31 to 36 (fun p q wz => ∃ pL pH, p = .pointer (some ⟨pL, 0, none⟩) ∧ q = .pointer (some ⟨pH, 0, none⟩) ∧ pL ≠ pH ∧ AtS 32 #[.int .i64 x0, .int .i64 y0] V0 wz pL ∧ AtS 32 #[.int .i64 x0, .int .i64 y0] V0 wz pH)
  case first =>
    go_region_held3 (fun w' => w'.cell? ⟨b, o, none⟩ = some (.int .i64 x0) ∧ w'.cell? ⟨b, o + 1, none⟩ = some (.int .i64 y0)) (first
      | exact C0.out _ (Below.refl V0.heap.size V0).drew
      | exact C0.out _ ((Below.refl V0.heap.size V0).alloc (Nat.le_refl _) _).drew
      | exact C0.out _ (((Below.refl V0.heap.size V0).alloc (Nat.le_refl _) _).alloc (by rw [World.size_alloc]; omega) _).drew
      | go_keep) (fail)
    all_goals (
      go_wp2_with fail
      go_meet
      first
      | exact ⟨_, _, rfl, rfl, by omega, XA.out.drew, XB.out.drew⟩
      | exact ⟨_, _, rfl, rfl, by omega, XB.out.drew, XA.out.drew⟩)
  case rest =>
    obtain ⟨pL, pH, rfl, rfl, hne, a1, a2⟩ := hcut
    generalize wc = V4 at *
    have HLo := Lib.hid a1
    have HHi := Lib.hid a2
    have Z1 := Lib.hid (Y1.out.old a1.1)
    have Z2 := Lib.hid (Y2.out.old a1.1)
    have l0 : V0.heap.size ≤ pL := a1.2.1
    have h0 : V0.heap.size ≤ pH := a2.2.1
    have n1_ : pL ≠ pH := hne
    have n2_ : pH ≠ pL := fun h => hne h.symm
    clear a1 a2 hne C0 XA XB Y1 Y2
    go_wp2_with fail
    go_loopw [39] (fun i wr => ∃ k : Nat, 0 ≤ k ∧ k ≤ N ∧ i = .int .i64 k ∧ AtS 32 #[.int .i64 (loT L 0 (k - 1)), .int .i64 (loT L 1 (k - 1))] V0 wr pL ∧ AtS 32 #[.int .i64 (hiT L 0 (k - 1)), .int .i64 (hiT L 1 (k - 1))] V0 wr pH ∧ AtS 32 #[.int .i64 0, .int .i64 0] w wr w.heap.size ∧ AtS 32 #[.int .i64 0, .int .i64 0] w wr (w.heap.size + 1)) (fun i _ => N - (intOf i).toNat)
    case atStart =>
      refine ⟨0, Nat.le_refl _, by omega, rfl, ?_, ?_, Z1.out, Z2.out⟩
      · show AtS 32 #[.int .i64 (fld 2 L 0 0), .int .i64 (fld 2 L 0 1)] V0 _ pL
        rw [HX0.out, HY0.out]; exact HLo.out
      · show AtS 32 #[.int .i64 (fld 2 L 0 0), .int .i64 (fld 2 L 0 1)] V0 _ pH
        rw [HX0.out, HY0.out]; exact HHi.out
    case round =>
      obtain ⟨k, hk1, hk, rfl, ha1, ha2, hr1, hr2⟩ := hrel
      have A1 := Lib.hid ha1
      have A2 := Lib.hid ha2
      have R1 := Lib.hid hr1
      have R2 := Lib.hid hr2
      clear ha1 ha2 hr1 hr2 HLo HHi Z1 Z2 HX0 HY0
      by_cases hlt : k < N
      · have hlt2 : (k : Int) < (N : Int) := by omega
        have hn9 := HN9.out
        have CKk := Lib.hid (CK.out k hlt)
        have HL0 := Lib.hid (lo_min L 0 k)
        have HL1 := Lib.hid (lo_min L 1 k)
        have HH0 := Lib.hid (hi_max L 0 k)
        have HH1 := Lib.hid (hi_max L 1 k)
        clear CK
        generalize hu1 : loT L 0 (k - 1) = u0 at *
        generalize hu2 : loT L 1 (k - 1) = u1 at *
        generalize hu3 : hiT L 0 (k - 1) = v0 at *
        generalize hu4 : hiT L 1 (k - 1) = v1 at *
        clear hu1 hu2 hu3 hu4
        generalize fld 2 L k 0 = x at *
        generalize fld 2 L k 1 = y at *
        obtain ⟨p0_, p1_⟩ := CKk.out wr A1.out.1
        have a0_ : wr.cell? ⟨pL, 0, none⟩ = some (.int .i64 u0) := A1.out.cell 0
        have a1_ : wr.cell? ⟨pL, 1, none⟩ = some (.int .i64 u1) := A1.out.cell 1
        have af0_ : wr.frozen? ⟨pL, 0, none⟩ = false := A1.out.frozen 0
        have af1_ : wr.frozen? ⟨pL, 1, none⟩ = false := A1.out.frozen 1
        have b0_ : wr.cell? ⟨pH, 0, none⟩ = some (.int .i64 v0) := A2.out.cell 0
        have b1_ : wr.cell? ⟨pH, 1, none⟩ = some (.int .i64 v1) := A2.out.cell 1
        have bf0_ : wr.frozen? ⟨pH, 0, none⟩ = false := A2.out.frozen 0
        have bf1_ : wr.frozen? ⟨pH, 1, none⟩ = false := A2.out.frozen 1
        have alt_ : pL < wr.heap.size := A1.out.2.2.1
        have blt_ : pH < wr.heap.size := A2.out.2.2.1
        have plt_ : b < wr.heap.size := Nat.lt_of_lt_of_le lb A1.out.1.size
        have BX := Lib.hid (Below.refl wr.heap.size wr)
        go_wp2_with fail
        go_roundw
        case rel =>
          refine ⟨k + 1, by omega, by omega, by go_num, ?_, ?_, ?_, ?_⟩
          · rw [Nat.add_sub_cancel, HL0.out, HL1.out]
            exact ((((A1.out.set 0 _).set 1 _).other (b' := pH) (by omega) (by omega) 0 _).other (b' := pH) (by omega) (by omega) 1 _).alloc _
          · rw [Nat.add_sub_cancel, HH0.out, HH1.out]
            exact ((((A2.out.other (b' := pL) (by omega) (by omega) 0 _).other (b' := pL) (by omega) (by omega) 1 _).set 0 _).set 1 _).alloc _
          · exact ((((R1.out.other (b' := pL) (by omega) (by omega) 0 _).other (b' := pL) (by omega) (by omega) 1 _).other (b' := pH) (by omega) (by omega) 0 _).other (b' := pH) (by omega) (by omega) 1 _).alloc _
          · exact ((((R2.out.other (b' := pL) (by omega) (by omega) 0 _).other (b' := pL) (by omega) (by omega) 1 _).other (b' := pH) (by omega) (by omega) 0 _).other (b' := pH) (by omega) (by omega) 1 _).alloc _
        case measure => simp [intOf]; omega
      · obtain rfl : k = N := by omega
        clear CK
        generalize loT L 0 (k - 1) = x0 at *
        generalize loT L 1 (k - 1) = y0 at *
        generalize hiT L 0 (k - 1) = x1 at *
        generalize hiT L 1 (k - 1) = y1 at *
        have c0_ : wr.cell? ⟨w.heap.size, 0, none⟩ = some (.int .i64 0) := R1.out.cell 0
        have c1_ : wr.cell? ⟨w.heap.size, 1, none⟩ = some (.int .i64 0) := R1.out.cell 1
        have f0_ : wr.frozen? ⟨w.heap.size, 0, none⟩ = false := R1.out.frozen 0
        have f1_ : wr.frozen? ⟨w.heap.size, 1, none⟩ = false := R1.out.frozen 1
        have d0_ : wr.cell? ⟨w.heap.size + 1, 0, none⟩ = some (.int .i64 0) := R2.out.cell 0
        have d1_ : wr.cell? ⟨w.heap.size + 1, 1, none⟩ = some (.int .i64 0) := R2.out.cell 1
        have g0_ : wr.frozen? ⟨w.heap.size + 1, 0, none⟩ = false := R2.out.frozen 0
        have g1_ : wr.frozen? ⟨w.heap.size + 1, 1, none⟩ = false := R2.out.frozen 1
        have a0_ : wr.cell? ⟨pL, 0, none⟩ = some (.int .i64 x0) := A1.out.cell 0
        have a1_ : wr.cell? ⟨pL, 1, none⟩ = some (.int .i64 y0) := A1.out.cell 1
        have b0_ : wr.cell? ⟨pH, 0, none⟩ = some (.int .i64 x1) := A2.out.cell 0
        have b1_ : wr.cell? ⟨pH, 1, none⟩ = some (.int .i64 y1) := A2.out.cell 1
        have m1_ : pL ≠ w.heap.size := by omega
        have m2_ : pH ≠ w.heap.size := by omega
        have m3_ : pL ≠ w.heap.size + 1 := by omega
        have m4_ : pH ≠ w.heap.size + 1 := by omega
        have m5_ : w.heap.size ≠ pL := by omega
        have m6_ : w.heap.size ≠ pH := by omega
        have m7_ : w.heap.size + 1 ≠ pL := by omega
        have m8_ : w.heap.size + 1 ≠ pH := by omega
        have HE := Lib.hid ((((R1.out.set 0 (.int .i64 x0)).set 1 (.int .i64 y0)).other (b' := w.heap.size + 1) (Nat.le_succ _) (by omega) 0 (.int .i64 x1)).other (b' := w.heap.size + 1) (Nat.le_succ _) (by omega) 1 (.int .i64 y1)).drew
        have HF := Lib.hid ((((R2.out.other (b' := w.heap.size) (Nat.le_refl _) (by omega) 0 (.int .i64 x0)).other (b' := w.heap.size) (Nat.le_refl _) (by omega) 1 (.int .i64 y0)).set 0 (.int .i64 x1)).set 1 (.int .i64 y1)).drew
        have HE2 := Lib.hid ((((R1.out.other (b' := w.heap.size + 1) (Nat.le_succ _) (by omega) 0 (.int .i64 x1)).other (b' := w.heap.size + 1) (Nat.le_succ _) (by omega) 1 (.int .i64 y1)).set 0 (.int .i64 x0)).set 1 (.int .i64 y0)).drew
        have HF2 := Lib.hid ((((R2.out.set 0 (.int .i64 x1)).set 1 (.int .i64 y1)).other (b' := w.heap.size) (Nat.le_refl _) (by omega) 0 (.int .i64 x0)).other (b' := w.heap.size) (Nat.le_refl _) (by omega) 1 (.int .i64 y0)).drew
        clear A1 A2 R1 R2
        go_wp2_with fail
        go_region
        all_goals (try go_wp2)
        all_goals (first
          | (
              have hl := HE.out.load Try.underlying32 rfl (by kernel_rfl)
              have hm := HF.out.load Try.underlying32 rfl (by kernel_rfl)
              refine bodyPost_ret (v := .tuple #[.agg #[.int .i64 x0, .int .i64 y0], .agg #[.int .i64 x1, .int .i64 y1], .bool true]) ?_ rfl ⟨by rw [HV.out.1, HV.out.2.1, HV.out.2.2.1, HV.out.2.2.2.1, HV.out.2.2.2.2], HE.out.1⟩
              rw [results_cct rfl]
              simp [asAddr, Result.andThen, hl, hm]
              done)
          | (
              have hl := HE2.out.load Try.underlying32 rfl (by kernel_rfl)
              have hm := HF2.out.load Try.underlying32 rfl (by kernel_rfl)
              refine bodyPost_ret (v := .tuple #[.agg #[.int .i64 x0, .int .i64 y0], .agg #[.int .i64 x1, .int .i64 y1], .bool true]) ?_ rfl ⟨by rw [HV.out.1, HV.out.2.1, HV.out.2.2.1, HV.out.2.2.2.1, HV.out.2.2.2.2], HE2.out.1⟩
              rw [results_cct rfl]
              simp [asAddr, Result.andThen, hl, hm]
              done))

set_option maxRecDepth 100000 in
set_option maxHeartbeats 16000000 in
theorem boxS (zs xs : List Int) (t : Int) (A C : Option Addr) (n c m q : Nat) (w : World) (hn : n ≤ 1048576) (hm : m ≤ 1048576) (h1 : RdZ 2 w w.heap.size A n zs) (h2 : RdI w w.heap.size C m xs) :
    Calls Try.prog 32 #[.slice A n c, .slice C m q, .int .i64 t] w fun e w' => e = .returned (.tuple #[.agg #[.int .i64 (loV zs n xs m t 0), .int .i64 (loV zs n xs m t 1)], .agg #[.int .i64 (hiV zs n xs m t 0), .int .i64 (hiV zs n xs m t 1)], .bool (fbB zs n xs m t)]) ∧ Below w.heap.size w w' := by
  have X1 := Lib.hid ((newS 32 #[.int .i64 0, .int .i64 0] w).alloc (.cells #[.int .i64 0, .int .i64 0] 32))
  have X2 := (newS 32 #[.int .i64 0, .int .i64 0] w).next 32 #[.int .i64 0, .int .i64 0]
  rw [World.size_alloc] at X2
  have X2 := Lib.hid X2
  have TT := Lib.hid (fun W (hb : Below w.heap.size w W) => asked11 zs xs t A C n c m q W hn hm (h1.next hb) (h2.next hb))
  have H1 := Lib.hid h1
  have H2 := Lib.hid h2
  have LST := Lib.hid (fun a b W => least11 a b W)
  have MST := Lib.hid (fun a b W => most11 a b W)
  clear h1 h2
  cases hq : ltB zs n xs m t
  · rw [hq] at TT
    have HV := Lib.hid (fb_no (ftN_no hq))
    clear H1 H2 LST MST hq
    go_enter Try.func32, Try.ntmps32
    go_wp2_with fail
    generalize (w.alloc (.cells #[.int .i64 0, .int .i64 0] 32)).alloc (.cells #[.int .i64 0, .int .i64 0] 32) = W0 at *
    refine (TT.out W0 X1.out.1).mono ?_
    rintro e V0 ⟨rfl, hb9⟩
    have Y1 := Lib.hid (X1.out.old hb9)
    have Y2 := Lib.hid (X2.out.old hb9)
    clear hb9 X1 X2 TT
    have c0_ : V0.cell? ⟨w.heap.size, 0, none⟩ = some (.int .i64 0) := Y1.out.cell 0
    have c1_ : V0.cell? ⟨w.heap.size, 1, none⟩ = some (.int .i64 0) := Y1.out.cell 1
    have f0_ : V0.frozen? ⟨w.heap.size, 0, none⟩ = false := Y1.out.frozen 0
    have f1_ : V0.frozen? ⟨w.heap.size, 1, none⟩ = false := Y1.out.frozen 1
    have d0_ : V0.cell? ⟨w.heap.size + 1, 0, none⟩ = some (.int .i64 0) := Y2.out.cell 0
    have d1_ : V0.cell? ⟨w.heap.size + 1, 1, none⟩ = some (.int .i64 0) := Y2.out.cell 1
    have g0_ : V0.frozen? ⟨w.heap.size + 1, 0, none⟩ = false := Y2.out.frozen 0
    have g1_ : V0.frozen? ⟨w.heap.size + 1, 1, none⟩ = false := Y2.out.frozen 1
    have HE := Lib.hid ((((Y1.out.set 0 (.int .i64 0)).set 1 (.int .i64 0)).other (b' := w.heap.size + 1) (Nat.le_succ _) (by omega) 0 (.int .i64 0)).other (b' := w.heap.size + 1) (Nat.le_succ _) (by omega) 1 (.int .i64 0))
    have HF := Lib.hid ((((Y2.out.other (b' := w.heap.size) (Nat.le_refl _) (by omega) 0 (.int .i64 0)).other (b' := w.heap.size) (Nat.le_refl _) (by omega) 1 (.int .i64 0)).set 0 (.int .i64 0)).set 1 (.int .i64 0))
    clear Y1 Y2
    go_wp2_with fail
    have hl := HE.out.load Try.underlying32 rfl (by kernel_rfl)
    have hm := HF.out.load Try.underlying32 rfl (by kernel_rfl)
    refine bodyPost_ret (v := .tuple #[.agg #[.int .i64 0, .int .i64 0], .agg #[.int .i64 0, .int .i64 0], .bool false]) ?_ rfl ⟨by rw [HV.out.1, HV.out.2.1, HV.out.2.2.1, HV.out.2.2.2.1, HV.out.2.2.2.2], HE.out.1⟩
    rw [results_cct rfl]
    simp [asAddr, Result.andThen, hl, hm]
  rw [hq] at TT
  obtain rfl : m = n := (arB_yes (ltB_yes hq).1).2.2
  have CC := Lib.hid (fun W (hb : Below w.heap.size w W) => fitting11 zs xs t A C m c q W (siB_yes (arB_yes (ltB_yes hq).1).2.1).1 hm (siB_yes (arB_yes (ltB_yes hq).1).2.1).2.2.1 (arB_yes (ltB_yes hq).1).1 (H1.out.next hb) (H2.out.next hb))
  have HLN := Lib.hid (ftV_length zs m xs m t)
  have hN9 := ftN_le zs m xs m t
  have HV0 := Lib.hid (fun h => fb_no (zs := zs) (xs := xs) (n := m) (m := m) (t := t) h)
  have HV1 := Lib.hid (fun h => fb_yes (zs := zs) (xs := xs) (n := m) (m := m) (t := t) h)
  rw [ftV_yes hq, ftN_yes hq] at *
  clear H1 H2 hq
  generalize ftT zs xs m t 961 = L at *
  generalize fcT zs xs m t 961 = N at *
  rcases Nat.eq_zero_or_pos N with h0 | hN
  · have HV := Lib.hid (HV0.out h0)
    subst h0
    clear HV0 HV1 LST MST HLN hN9
    go_enter Try.func32, Try.ntmps32
    go_wp2_with fail
    generalize (w.alloc (.cells #[.int .i64 0, .int .i64 0] 32)).alloc (.cells #[.int .i64 0, .int .i64 0] 32) = W0 at *
    refine (TT.out W0 X1.out.1).mono ?_
    rintro e V9 ⟨rfl, hb9⟩
    have X3 := Lib.hid (X1.out.old hb9)
    have X4 := Lib.hid (X2.out.old hb9)
    clear hb9 X1 X2 TT
    go_wp2_with fail
    refine (CC.out V9 X3.out.1).mono ?_
    rintro e V0 ⟨v, rfl, ho, hb⟩
    obtain ⟨A3, c3, rfl⟩ := own_sliceZ ho
    have Y1 := Lib.hid (X3.out.old hb)
    have Y2 := Lib.hid (X4.out.old hb)
    clear hb X3 X4 CC
    clear ho
    have c0_ : V0.cell? ⟨w.heap.size, 0, none⟩ = some (.int .i64 0) := Y1.out.cell 0
    have c1_ : V0.cell? ⟨w.heap.size, 1, none⟩ = some (.int .i64 0) := Y1.out.cell 1
    have f0_ : V0.frozen? ⟨w.heap.size, 0, none⟩ = false := Y1.out.frozen 0
    have f1_ : V0.frozen? ⟨w.heap.size, 1, none⟩ = false := Y1.out.frozen 1
    have d0_ : V0.cell? ⟨w.heap.size + 1, 0, none⟩ = some (.int .i64 0) := Y2.out.cell 0
    have d1_ : V0.cell? ⟨w.heap.size + 1, 1, none⟩ = some (.int .i64 0) := Y2.out.cell 1
    have g0_ : V0.frozen? ⟨w.heap.size + 1, 0, none⟩ = false := Y2.out.frozen 0
    have g1_ : V0.frozen? ⟨w.heap.size + 1, 1, none⟩ = false := Y2.out.frozen 1
    have HE := Lib.hid ((((Y1.out.set 0 (.int .i64 0)).set 1 (.int .i64 0)).other (b' := w.heap.size + 1) (Nat.le_succ _) (by omega) 0 (.int .i64 0)).other (b' := w.heap.size + 1) (Nat.le_succ _) (by omega) 1 (.int .i64 0))
    have HF := Lib.hid ((((Y2.out.other (b' := w.heap.size) (Nat.le_refl _) (by omega) 0 (.int .i64 0)).other (b' := w.heap.size) (Nat.le_refl _) (by omega) 1 (.int .i64 0)).set 0 (.int .i64 0)).set 1 (.int .i64 0))
    clear Y1 Y2
    go_wp2_with fail
    have hl := HE.out.load Try.underlying32 rfl (by kernel_rfl)
    have hm := HF.out.load Try.underlying32 rfl (by kernel_rfl)
    refine bodyPost_ret (v := .tuple #[.agg #[.int .i64 0, .int .i64 0], .agg #[.int .i64 0, .int .i64 0], .bool false]) ?_ rfl ⟨by rw [HV.out.1, HV.out.2.1, HV.out.2.2.1, HV.out.2.2.2.1, HV.out.2.2.2.2], HE.out.1⟩
    rw [results_cct rfl]
    simp [asAddr, Result.andThen, hl, hm]
  have HV := Lib.hid (HV1.out hN)
  clear HV0 HV1
  go_enter Try.func32, Try.ntmps32
  go_wp2_with fail
  generalize (w.alloc (.cells #[.int .i64 0, .int .i64 0] 32)).alloc (.cells #[.int .i64 0, .int .i64 0] 32) = W0 at *
  refine (TT.out W0 X1.out.1).mono ?_
  rintro e V9 ⟨rfl, hb9⟩
  have X3 := Lib.hid (X1.out.old hb9)
  have X4 := Lib.hid (X2.out.old hb9)
  clear hb9 X1 X2 TT
  go_wp2_with fail
  refine (CC.out V9 X3.out.1).mono ?_
  rintro e V0 ⟨v, rfl, ho, hb⟩
  obtain ⟨A3, c3, rfl⟩ := own_sliceZ ho
  have Y1 := Lib.hid (X3.out.old hb)
  have Y2 := Lib.hid (X4.out.old hb)
  clear hb X3 X4 CC
  have RX := Lib.hid (RdZ.of_own ho HLN.out)
  obtain ⟨b, o, rfl, lb, p0, p1⟩ := cells2 RX.out hN
  rw [Nat.zero_mul, Nat.add_zero] at p0 p1
  have CK := Lib.hid (fun k (hk : k < N) WZ (hb : Below V0.heap.size V0 WZ) => show WZ.cell? ⟨b, o + k * 2, none⟩ = some (.int .i64 (fld 2 L k 0)) ∧ WZ.cell? ⟨b, o + k * 2 + 1, none⟩ = some (.int .i64 (fld 2 L k 1)) from by
    obtain ⟨b', o', he, lb', q0, q1⟩ := cells2 RX.out hk
    simp only [Option.some.injEq, Addr.mk.injEq, and_true] at he
    obtain ⟨rfl, rfl⟩ := he
    exact ⟨(hb.cell (p := ⟨_, _, none⟩) lb').trans q0, (hb.cell (p := ⟨_, _, none⟩) lb').trans q1⟩)
  have C0 := Lib.hid (fun WZ (hb : Below V0.heap.size V0 WZ) => show WZ.cell? ⟨b, o, none⟩ = some (.int .i64 (fld 2 L 0 0)) ∧ WZ.cell? ⟨b, o + 1, none⟩ = some (.int .i64 (fld 2 L 0 1)) from ⟨(hb.cell (p := ⟨b, o, none⟩) lb).trans p0, (hb.cell (p := ⟨b, o + 1, none⟩) lb).trans p1⟩)
  have HN9 := Lib.hid hN9
  have lv7 := Y2.out.2.2.1
  have hN2 : (0 : Int) < (N : Int) := by omega
  have hN3 : ((N : Int) == 0) = false := beq_eq_false_iff_ne.mpr (by omega)
  clear p0 p1 ho RX
  generalize hx0 : fld 2 L 0 0 = x0 at *
  generalize hy0 : fld 2 L 0 1 = y0 at *
  have HX0 := Lib.hid hx0
  have HY0 := Lib.hid hy0
  clear hx0 hy0
  have XA := Lib.hid ((newS 32 #[.int .i64 x0, .int .i64 y0] V0).alloc (.cells #[.int .i64 x0, .int .i64 y0] 32))
  have XB := (newS 32 #[.int .i64 x0, .int .i64 y0] V0).next 32 #[.int .i64 x0, .int .i64 y0]
  rw [World.size_alloc] at XB
  have XB := Lib.hid XB
  go_upto_region 6 with fail
  go_cut [10, 11] from 29 to 34 (fun p q wz => ∃ pL pH, p = .pointer (some ⟨pL, 0, none⟩) ∧ q = .pointer (some ⟨pH, 0, none⟩) ∧ pL ≠ pH ∧ AtS 32 #[.int .i64 x0, .int .i64 y0] V0 wz pL ∧ AtS 32 #[.int .i64 x0, .int .i64 y0] V0 wz pH)
  case first =>
    go_region_held3 (fun w' => w'.cell? ⟨b, o, none⟩ = some (.int .i64 x0) ∧ w'.cell? ⟨b, o + 1, none⟩ = some (.int .i64 y0)) (first
      | exact C0.out _ (Below.refl V0.heap.size V0).drew
      | exact C0.out _ ((Below.refl V0.heap.size V0).alloc (Nat.le_refl _) _).drew
      | exact C0.out _ (((Below.refl V0.heap.size V0).alloc (Nat.le_refl _) _).alloc (by rw [World.size_alloc]; omega) _).drew
      | go_keep) (fail)
    all_goals (
      go_wp2_with fail
      go_meet
      first
      | exact ⟨_, _, rfl, rfl, by omega, XA.out.drew, XB.out.drew⟩
      | exact ⟨_, _, rfl, rfl, by omega, XB.out.drew, XA.out.drew⟩)
  case rest =>
    obtain ⟨pL, pH, rfl, rfl, hne, a1, a2⟩ := hcut
    generalize wc = V4 at *
    have HLo := Lib.hid a1
    have HHi := Lib.hid a2
    have Z1 := Lib.hid (Y1.out.old a1.1)
    have Z2 := Lib.hid (Y2.out.old a1.1)
    have l0 : V0.heap.size ≤ pL := a1.2.1
    have h0 : V0.heap.size ≤ pH := a2.2.1
    have n1_ : pL ≠ pH := hne
    have n2_ : pH ≠ pL := fun h => hne h.symm
    clear a1 a2 hne C0 XA XB Y1 Y2
    go_wp2_with fail
    go_loopw [12] (fun i wr => ∃ k : Nat, 1 ≤ k ∧ k ≤ N ∧ i = .int .i64 k ∧ AtS 32 #[.int .i64 (loT L 0 (k - 1)), .int .i64 (loT L 1 (k - 1))] V0 wr pL ∧ AtS 32 #[.int .i64 (hiT L 0 (k - 1)), .int .i64 (hiT L 1 (k - 1))] V0 wr pH ∧ AtS 32 #[.int .i64 0, .int .i64 0] w wr w.heap.size ∧ AtS 32 #[.int .i64 0, .int .i64 0] w wr (w.heap.size + 1)) (fun i _ => N - (intOf i).toNat)
    case atStart =>
      refine ⟨1, Nat.le_refl _, by omega, rfl, ?_, ?_, Z1.out, Z2.out⟩
      · show AtS 32 #[.int .i64 (fld 2 L 0 0), .int .i64 (fld 2 L 0 1)] V0 _ pL
        rw [HX0.out, HY0.out]; exact HLo.out
      · show AtS 32 #[.int .i64 (fld 2 L 0 0), .int .i64 (fld 2 L 0 1)] V0 _ pH
        rw [HX0.out, HY0.out]; exact HHi.out
    case round =>
      obtain ⟨k, hk1, hk, rfl, ha1, ha2, hr1, hr2⟩ := hrel
      have A1 := Lib.hid ha1
      have A2 := Lib.hid ha2
      have R1 := Lib.hid hr1
      have R2 := Lib.hid hr2
      clear ha1 ha2 hr1 hr2 HLo HHi Z1 Z2 HX0 HY0
      by_cases hlt : k < N
      · have hlt2 : (k : Int) < (N : Int) := by omega
        have hn9 := HN9.out
        have CKk := Lib.hid (CK.out k hlt)
        have HL0 := Lib.hid (lo_min L 0 k)
        have HL1 := Lib.hid (lo_min L 1 k)
        have HH0 := Lib.hid (hi_max L 0 k)
        have HH1 := Lib.hid (hi_max L 1 k)
        clear CK
        generalize hu1 : loT L 0 (k - 1) = u0 at *
        generalize hu2 : loT L 1 (k - 1) = u1 at *
        generalize hu3 : hiT L 0 (k - 1) = v0 at *
        generalize hu4 : hiT L 1 (k - 1) = v1 at *
        clear hu1 hu2 hu3 hu4
        generalize fld 2 L k 0 = x at *
        generalize fld 2 L k 1 = y at *
        have a0_ : wr.cell? ⟨pL, 0, none⟩ = some (.int .i64 u0) := A1.out.cell 0
        have a1_ : wr.cell? ⟨pL, 1, none⟩ = some (.int .i64 u1) := A1.out.cell 1
        have af0_ : wr.frozen? ⟨pL, 0, none⟩ = false := A1.out.frozen 0
        have af1_ : wr.frozen? ⟨pL, 1, none⟩ = false := A1.out.frozen 1
        have k0_ : (0 : Int) ≤ (k : Int) := Int.natCast_nonneg _
        go_upto_region 10 with fail
        go_cut [57] from 41 to 57 (fun v wz => v = .agg #[.int .i64 (min u0 x), .int .i64 (min u1 y)] ∧ AtS 32 #[.int .i64 (min u0 x), .int .i64 (min u1 y)] V0 wz pL ∧ AtS 32 #[.int .i64 v0, .int .i64 v1] V0 wz pH ∧ AtS 32 #[.int .i64 0, .int .i64 0] w wz w.heap.size ∧ AtS 32 #[.int .i64 0, .int .i64 0] w wz (w.heap.size + 1))
        case first =>
          have HS := Lib.hid (show World.cell? wr.drew ⟨b, o + k * 2, none⟩ = some (.int .i64 x) ∧ World.cell? wr.drew ⟨b, o + k * 2 + 1, none⟩ = some (.int .i64 y) ∧ World.cell? wr.drew ⟨pL, 0, none⟩ = some (.int .i64 u0) ∧ World.cell? wr.drew ⟨pL, 1, none⟩ = some (.int .i64 u1) from ⟨(CKk.out _ A1.out.1.drew).1, (CKk.out _ A1.out.1.drew).2, A1.out.drew.cell 0, A1.out.drew.cell 1⟩)
          refine wp_region_tail (S := fun w' => World.cell? w' ⟨b, o + k * 2, none⟩ = some (.int .i64 x) ∧ World.cell? w' ⟨b, o + k * 2 + 1, none⟩ = some (.int .i64 y) ∧ World.cell? w' ⟨pL, 0, none⟩ = some (.int .i64 u0) ∧ World.cell? w' ⟨pL, 1, none⟩ = some (.int .i64 u1)) 17 (by kernel_rfl) HS.out (fun hHeld => ?_)
          try simp only [Act.put]
          refine wpAnyE_take (i := 0) (v := ?vqt0) rfl (by decide +kernel) (fun _ _ _ h => h) (Or.inl ⟨by rfl, ?hqt0⟩) (by assumption) ?rqt0
          case hqt0 =>
            intro wS hSw
            obtain ⟨h0, h1, h2, h3⟩ := hSw
            go_simp
            try with_reducible rfl
          try simp only [Act.put]
          refine wpAnyE_take (i := 1) (v := ?vqt1) rfl (by decide +kernel) (fun _ _ _ h => h) (Or.inl ⟨by rfl, ?hqt1⟩) (by assumption) ?rqt1
          case hqt1 =>
            intro wS hSw
            obtain ⟨h0, h1, h2, h3⟩ := hSw
            go_simp
            try with_reducible rfl
          try simp only [Act.put]
          refine wpAnyE_take (i := 2) (v := ?vqt2) rfl (by decide +kernel) (fun _ _ _ h => h) (Or.inl ⟨by rfl, ?hqt2⟩) (by assumption) ?rqt2
          case hqt2 =>
            intro wS hSw
            obtain ⟨h0, h1, h2, h3⟩ := hSw
            go_simp
            try with_reducible rfl
          try simp only [Act.put]
          refine wpAnyE_take (i := 3) (v := ?vqt3) rfl (by decide +kernel) (fun _ _ _ h => h) (Or.inl ⟨by rfl, ?hqt3⟩) (by assumption) ?rqt3
          case hqt3 =>
            intro wS hSw
            obtain ⟨h0, h1, h2, h3⟩ := hSw
            go_simp
            try with_reducible rfl
          try simp only [Act.put]
          refine wpAnyE_take (i := 4) (v := ?vqt4) rfl (by decide +kernel) (fun _ _ _ h => h) (Or.inl ⟨by rfl, ?hqt4⟩) (by assumption) ?rqt4
          case hqt4 =>
            intro wS hSw
            obtain ⟨h0, h1, h2, h3⟩ := hSw
            go_simp
            try with_reducible rfl
          try simp only [Act.put]
          refine wpAnyE_take (i := 5) (v := ?vqt5) rfl (by decide +kernel) (fun _ _ _ h => h) (Or.inl ⟨by rfl, ?hqt5⟩) (by assumption) ?rqt5
          case hqt5 =>
            intro wS hSw
            obtain ⟨h0, h1, h2, h3⟩ := hSw
            go_simp
            try with_reducible rfl
          try simp only [Act.put]
          refine wpAnyE_take (i := 6) (v := ?vqt6) rfl (by decide +kernel) (fun _ _ _ h => h) (Or.inl ⟨by rfl, ?hqt6⟩) (by assumption) ?rqt6
          case hqt6 =>
            intro wS hSw
            obtain ⟨h0, h1, h2, h3⟩ := hSw
            go_simp
            try with_reducible rfl
          try simp only [Act.put]
          refine wpAnyE_take (i := 8) (v := ?vqt8) rfl (by decide +kernel) (fun _ _ _ h => h) (Or.inl ⟨by rfl, ?hqt8⟩) (by assumption) ?rqt8
          case hqt8 =>
            intro wS hSw
            obtain ⟨h0, h1, h2, h3⟩ := hSw
            go_simp
            try with_reducible rfl
          try simp only [Act.put]
          refine wpAnyE_take (i := 9) (v := ?vqt9) rfl (by decide +kernel) (fun _ _ _ h => h) (Or.inl ⟨by rfl, ?hqt9⟩) (by assumption) ?rqt9
          case hqt9 =>
            intro wS hSw
            obtain ⟨h0, h1, h2, h3⟩ := hSw
            go_simp
            try with_reducible rfl
          try simp only [Act.put]
          refine wpAnyE_take (i := 10) (v := ?vqt10) rfl (by decide +kernel) (fun _ _ _ h => h) (Or.inl ⟨by rfl, ?hqt10⟩) (by assumption) ?rqt10
          case hqt10 =>
            intro wS hSw
            obtain ⟨h0, h1, h2, h3⟩ := hSw
            go_simp
            try with_reducible rfl
          try simp only [Act.put]
          refine wpAnyE_take (i := 11) (v := ?vqt11) rfl (by decide +kernel) (fun _ _ _ h => h) (Or.inl ⟨by rfl, ?hqt11⟩) (by assumption) ?rqt11
          case hqt11 =>
            intro wS hSw
            obtain ⟨h0, h1, h2, h3⟩ := hSw
            go_simp
            try with_reducible rfl
          try simp only [Act.put]
          refine wpAnyE_take (i := 12) (v := ?vqt12) rfl (by decide +kernel) (fun _ _ _ h => h) (Or.inl ⟨by rfl, ?hqt12⟩) (by assumption) ?rqt12
          case hqt12 =>
            intro wS hSw
            obtain ⟨h0, h1, h2, h3⟩ := hSw
            go_simp
            try with_reducible rfl
          try simp only [Act.put]
          refine wpAnyE_take (i := 13) (v := ?vqt13) rfl (by decide +kernel) (fun _ _ _ h => h) (Or.inl ⟨by rfl, ?hqt13⟩) (by assumption) ?rqt13
          case hqt13 =>
            intro wS hSw
            obtain ⟨h0, h1, h2, h3⟩ := hSw
            go_simp
            try with_reducible rfl
          try simp only [Act.put]
          refine wpAnyE_take (i := 14) (v := ?vqt14) rfl (by decide +kernel) (fun _ _ _ h => h) (Or.inl ⟨by rfl, ?hqt14⟩) (by assumption) ?rqt14
          case hqt14 =>
            intro wS hSw
            obtain ⟨h0, h1, h2, h3⟩ := hSw
            go_simp
            try with_reducible rfl
          try simp only [Act.put]
          refine wpAnyE_ready (rs := [7]) (by kernel_rfl) (by simp) ?_
          refine AllReadyE.cons (i := 7) rfl (by decide) (fun K hK => ?_) AllReadyE.nil
          go_simp
          refine (LST.out _ _ _).mono ?_
          rintro e w' ⟨rfl, rfl⟩
          go_simp
          refine hK.out _ _ HS.out (fun hHeld => ?_)
          clear hK K
          try simp only [Act.put]
          refine wpAnyE_ready (rs := [15]) (by kernel_rfl) (by simp) ?_
          refine AllReadyE.cons (i := 15) rfl (by decide) (fun K hK => ?_) AllReadyE.nil
          go_simp
          refine (LST.out _ _ _).mono ?_
          rintro e w' ⟨rfl, rfl⟩
          go_simp
          refine hK.out _ _ HS.out (fun hHeld => ?_)
          clear hK K
          try simp only [Act.put]
          refine wpAnyE_take (i := 16) (v := ?vqt16) rfl (by decide +kernel) (fun _ _ _ h => h) (Or.inl ⟨by rfl, ?hqt16⟩) (by assumption) ?rqt16
          case hqt16 =>
            intro wS hSw
            obtain ⟨h0, h1, h2, h3⟩ := hSw
            go_simp
            try with_reducible rfl
          try simp only [Act.put]
          refine wpAnyE_ready (rs := [17]) (by kernel_rfl) (by simp) ?_
          refine AllReadyE.last (i := 17) rfl rfl (fun K hK => ?_)
          go_simp
          refine hK.out _ _ ?_
          clear hK K
          try simp only [Act.put]
          refine wpAnyE_done (by kernel_rfl) ?_ _
          try simp only [List.getElem_toArray, List.getElem_cons_succ, List.getElem_cons_zero, List.setIfInBounds_toArray, List.set_cons_succ, List.set_cons_zero]
          (go_wp2_with fail; go_meet; exact ⟨rfl, ((A1.out.drew.set 0 _).set 1 _), ((A2.out.drew.other (b' := pL) (by omega) (by omega) 0 _).other (b' := pL) (by omega) (by omega) 1 _), ((R1.out.drew.other (b' := pL) (by omega) (by omega) 0 _).other (b' := pL) (by omega) (by omega) 1 _), ((R2.out.drew.other (b' := pL) (by omega) (by omega) 0 _).other (b' := pL) (by omega) (by omega) 1 _)⟩)
        case rest =>
          obtain ⟨rfl, ha, ho, hr1, hr2⟩ := hcut
          generalize wc = Wt at *
          have At := Lib.hid ha
          have Ot := Lib.hid ho
          have R1t := Lib.hid hr1
          have R2t := Lib.hid hr2
          clear ha ho hr1 hr2 A1 A2 R1 R2
          have b0_ : Wt.cell? ⟨pH, 0, none⟩ = some (.int .i64 v0) := Ot.out.cell 0
          have b1_ : Wt.cell? ⟨pH, 1, none⟩ = some (.int .i64 v1) := Ot.out.cell 1
          have bf0_ : Wt.frozen? ⟨pH, 0, none⟩ = false := Ot.out.frozen 0
          have bf1_ : Wt.frozen? ⟨pH, 1, none⟩ = false := Ot.out.frozen 1
          clear a0_ a1_ af0_ af1_
          go_upto_region 11 with fail
          have HS := Lib.hid (show World.cell? Wt.drew ⟨b, o + k * 2, none⟩ = some (.int .i64 x) ∧ World.cell? Wt.drew ⟨b, o + k * 2 + 1, none⟩ = some (.int .i64 y) ∧ World.cell? Wt.drew ⟨pH, 0, none⟩ = some (.int .i64 v0) ∧ World.cell? Wt.drew ⟨pH, 1, none⟩ = some (.int .i64 v1) from ⟨(CKk.out _ Ot.out.1.drew).1, (CKk.out _ Ot.out.1.drew).2, Ot.out.drew.cell 0, Ot.out.drew.cell 1⟩)
          refine wp_region_tail (S := fun w' => World.cell? w' ⟨b, o + k * 2, none⟩ = some (.int .i64 x) ∧ World.cell? w' ⟨b, o + k * 2 + 1, none⟩ = some (.int .i64 y) ∧ World.cell? w' ⟨pH, 0, none⟩ = some (.int .i64 v0) ∧ World.cell? w' ⟨pH, 1, none⟩ = some (.int .i64 v1)) 17 (by kernel_rfl) HS.out (fun hHeld => ?_)
          try simp only [Act.put]
          refine wpAnyE_take (i := 0) (v := ?vqz0) rfl (by decide +kernel) (fun _ _ _ h => h) (Or.inl ⟨by rfl, ?hqz0⟩) (by assumption) ?rqz0
          case hqz0 =>
            intro wS hSw
            obtain ⟨h0, h1, h2, h3⟩ := hSw
            go_simp
            try with_reducible rfl
          try simp only [Act.put]
          refine wpAnyE_take (i := 1) (v := ?vqz1) rfl (by decide +kernel) (fun _ _ _ h => h) (Or.inl ⟨by rfl, ?hqz1⟩) (by assumption) ?rqz1
          case hqz1 =>
            intro wS hSw
            obtain ⟨h0, h1, h2, h3⟩ := hSw
            go_simp
            try with_reducible rfl
          try simp only [Act.put]
          refine wpAnyE_take (i := 2) (v := ?vqz2) rfl (by decide +kernel) (fun _ _ _ h => h) (Or.inl ⟨by rfl, ?hqz2⟩) (by assumption) ?rqz2
          case hqz2 =>
            intro wS hSw
            obtain ⟨h0, h1, h2, h3⟩ := hSw
            go_simp
            try with_reducible rfl
          try simp only [Act.put]
          refine wpAnyE_take (i := 3) (v := ?vqz3) rfl (by decide +kernel) (fun _ _ _ h => h) (Or.inl ⟨by rfl, ?hqz3⟩) (by assumption) ?rqz3
          case hqz3 =>
            intro wS hSw
            obtain ⟨h0, h1, h2, h3⟩ := hSw
            go_simp
            try with_reducible rfl
          try simp only [Act.put]
          refine wpAnyE_take (i := 4) (v := ?vqz4) rfl (by decide +kernel) (fun _ _ _ h => h) (Or.inl ⟨by rfl, ?hqz4⟩) (by assumption) ?rqz4
          case hqz4 =>
            intro wS hSw
            obtain ⟨h0, h1, h2, h3⟩ := hSw
            go_simp
            try with_reducible rfl
          try simp only [Act.put]
          refine wpAnyE_take (i := 5) (v := ?vqz5) rfl (by decide +kernel) (fun _ _ _ h => h) (Or.inl ⟨by rfl, ?hqz5⟩) (by assumption) ?rqz5
          case hqz5 =>
            intro wS hSw
            obtain ⟨h0, h1, h2, h3⟩ := hSw
            go_simp
            try with_reducible rfl
          try simp only [Act.put]
          refine wpAnyE_take (i := 6) (v := ?vqz6) rfl (by decide +kernel) (fun _ _ _ h => h) (Or.inl ⟨by rfl, ?hqz6⟩) (by assumption) ?rqz6
          case hqz6 =>
            intro wS hSw
            obtain ⟨h0, h1, h2, h3⟩ := hSw
            go_simp
            try with_reducible rfl
          try simp only [Act.put]
          refine wpAnyE_take (i := 8) (v := ?vqz8) rfl (by decide +kernel) (fun _ _ _ h => h) (Or.inl ⟨by rfl, ?hqz8⟩) (by assumption) ?rqz8
          case hqz8 =>
            intro wS hSw
            obtain ⟨h0, h1, h2, h3⟩ := hSw
            go_simp
            try with_reducible rfl
          try simp only [Act.put]
          refine wpAnyE_take (i := 9) (v := ?vqz9) rfl (by decide +kernel) (fun _ _ _ h => h) (Or.inl ⟨by rfl, ?hqz9⟩) (by assumption) ?rqz9
          case hqz9 =>
            intro wS hSw
            obtain ⟨h0, h1, h2, h3⟩ := hSw
            go_simp
            try with_reducible rfl
          try simp only [Act.put]
          refine wpAnyE_take (i := 10) (v := ?vqz10) rfl (by decide +kernel) (fun _ _ _ h => h) (Or.inl ⟨by rfl, ?hqz10⟩) (by assumption) ?rqz10
          case hqz10 =>
            intro wS hSw
            obtain ⟨h0, h1, h2, h3⟩ := hSw
            go_simp
            try with_reducible rfl
          try simp only [Act.put]
          refine wpAnyE_take (i := 11) (v := ?vqz11) rfl (by decide +kernel) (fun _ _ _ h => h) (Or.inl ⟨by rfl, ?hqz11⟩) (by assumption) ?rqz11
          case hqz11 =>
            intro wS hSw
            obtain ⟨h0, h1, h2, h3⟩ := hSw
            go_simp
            try with_reducible rfl
          try simp only [Act.put]
          refine wpAnyE_take (i := 12) (v := ?vqz12) rfl (by decide +kernel) (fun _ _ _ h => h) (Or.inl ⟨by rfl, ?hqz12⟩) (by assumption) ?rqz12
          case hqz12 =>
            intro wS hSw
            obtain ⟨h0, h1, h2, h3⟩ := hSw
            go_simp
            try with_reducible rfl
          try simp only [Act.put]
          refine wpAnyE_take (i := 13) (v := ?vqz13) rfl (by decide +kernel) (fun _ _ _ h => h) (Or.inl ⟨by rfl, ?hqz13⟩) (by assumption) ?rqz13
          case hqz13 =>
            intro wS hSw
            obtain ⟨h0, h1, h2, h3⟩ := hSw
            go_simp
            try with_reducible rfl
          try simp only [Act.put]
          refine wpAnyE_take (i := 14) (v := ?vqz14) rfl (by decide +kernel) (fun _ _ _ h => h) (Or.inl ⟨by rfl, ?hqz14⟩) (by assumption) ?rqz14
          case hqz14 =>
            intro wS hSw
            obtain ⟨h0, h1, h2, h3⟩ := hSw
            go_simp
            try with_reducible rfl
          try simp only [Act.put]
          refine wpAnyE_ready (rs := [7]) (by kernel_rfl) (by simp) ?_
          refine AllReadyE.cons (i := 7) rfl (by decide) (fun K hK => ?_) AllReadyE.nil
          go_simp
          refine (MST.out _ _ _).mono ?_
          rintro e w' ⟨rfl, rfl⟩
          go_simp
          refine hK.out _ _ HS.out (fun hHeld => ?_)
          clear hK K
          try simp only [Act.put]
          refine wpAnyE_ready (rs := [15]) (by kernel_rfl) (by simp) ?_
          refine AllReadyE.cons (i := 15) rfl (by decide) (fun K hK => ?_) AllReadyE.nil
          go_simp
          refine (MST.out _ _ _).mono ?_
          rintro e w' ⟨rfl, rfl⟩
          go_simp
          refine hK.out _ _ HS.out (fun hHeld => ?_)
          clear hK K
          try simp only [Act.put]
          refine wpAnyE_take (i := 16) (v := ?vqz16) rfl (by decide +kernel) (fun _ _ _ h => h) (Or.inl ⟨by rfl, ?hqz16⟩) (by assumption) ?rqz16
          case hqz16 =>
            intro wS hSw
            obtain ⟨h0, h1, h2, h3⟩ := hSw
            go_simp
            try with_reducible rfl
          try simp only [Act.put]
          refine wpAnyE_ready (rs := [17]) (by kernel_rfl) (by simp) ?_
          refine AllReadyE.last (i := 17) rfl rfl (fun K hK => ?_)
          go_simp
          refine hK.out _ _ ?_
          clear hK K
          try simp only [Act.put]
          refine wpAnyE_done (by kernel_rfl) ?_ _
          try simp only [List.getElem_toArray, List.getElem_cons_succ, List.getElem_cons_zero, List.setIfInBounds_toArray, List.set_cons_succ, List.set_cons_zero]
          go_wp2_with fail
          go_roundw
          case rel =>
            refine ⟨k + 1, by omega, by omega, by go_num, ?_, ?_, ((R1t.out.drew.other (b' := pH) (by omega) (by omega) 0 _).other (b' := pH) (by omega) (by omega) 1 _), ((R2t.out.drew.other (b' := pH) (by omega) (by omega) 0 _).other (b' := pH) (by omega) (by omega) 1 _)⟩
            · rw [Nat.add_sub_cancel, HL0.out, HL1.out]; exact ((At.out.drew.other (b' := pH) (by omega) (by omega) 0 _).other (b' := pH) (by omega) (by omega) 1 _)
            · rw [Nat.add_sub_cancel, HH0.out, HH1.out]; exact ((Ot.out.drew.set 0 _).set 1 _)
          case measure => simp [intOf]; omega
      · obtain rfl : k = N := by omega
        clear CK
        generalize loT L 0 (k - 1) = x0 at *
        generalize loT L 1 (k - 1) = y0 at *
        generalize hiT L 0 (k - 1) = x1 at *
        generalize hiT L 1 (k - 1) = y1 at *
        have c0_ : wr.cell? ⟨w.heap.size, 0, none⟩ = some (.int .i64 0) := R1.out.cell 0
        have c1_ : wr.cell? ⟨w.heap.size, 1, none⟩ = some (.int .i64 0) := R1.out.cell 1
        have f0_ : wr.frozen? ⟨w.heap.size, 0, none⟩ = false := R1.out.frozen 0
        have f1_ : wr.frozen? ⟨w.heap.size, 1, none⟩ = false := R1.out.frozen 1
        have d0_ : wr.cell? ⟨w.heap.size + 1, 0, none⟩ = some (.int .i64 0) := R2.out.cell 0
        have d1_ : wr.cell? ⟨w.heap.size + 1, 1, none⟩ = some (.int .i64 0) := R2.out.cell 1
        have g0_ : wr.frozen? ⟨w.heap.size + 1, 0, none⟩ = false := R2.out.frozen 0
        have g1_ : wr.frozen? ⟨w.heap.size + 1, 1, none⟩ = false := R2.out.frozen 1
        have a0_ : wr.cell? ⟨pL, 0, none⟩ = some (.int .i64 x0) := A1.out.cell 0
        have a1_ : wr.cell? ⟨pL, 1, none⟩ = some (.int .i64 y0) := A1.out.cell 1
        have b0_ : wr.cell? ⟨pH, 0, none⟩ = some (.int .i64 x1) := A2.out.cell 0
        have b1_ : wr.cell? ⟨pH, 1, none⟩ = some (.int .i64 y1) := A2.out.cell 1
        have m1_ : pL ≠ w.heap.size := by omega
        have m2_ : pH ≠ w.heap.size := by omega
        have m3_ : pL ≠ w.heap.size + 1 := by omega
        have m4_ : pH ≠ w.heap.size + 1 := by omega
        have m5_ : w.heap.size ≠ pL := by omega
        have m6_ : w.heap.size ≠ pH := by omega
        have m7_ : w.heap.size + 1 ≠ pL := by omega
        have m8_ : w.heap.size + 1 ≠ pH := by omega
        have HE := Lib.hid ((((R1.out.set 0 (.int .i64 x0)).set 1 (.int .i64 y0)).other (b' := w.heap.size + 1) (Nat.le_succ _) (by omega) 0 (.int .i64 x1)).other (b' := w.heap.size + 1) (Nat.le_succ _) (by omega) 1 (.int .i64 y1)).drew
        have HF := Lib.hid ((((R2.out.other (b' := w.heap.size) (Nat.le_refl _) (by omega) 0 (.int .i64 x0)).other (b' := w.heap.size) (Nat.le_refl _) (by omega) 1 (.int .i64 y0)).set 0 (.int .i64 x1)).set 1 (.int .i64 y1)).drew
        have HE2 := Lib.hid ((((R1.out.other (b' := w.heap.size + 1) (Nat.le_succ _) (by omega) 0 (.int .i64 x1)).other (b' := w.heap.size + 1) (Nat.le_succ _) (by omega) 1 (.int .i64 y1)).set 0 (.int .i64 x0)).set 1 (.int .i64 y0)).drew
        have HF2 := Lib.hid ((((R2.out.set 0 (.int .i64 x1)).set 1 (.int .i64 y1)).other (b' := w.heap.size) (Nat.le_refl _) (by omega) 0 (.int .i64 x0)).other (b' := w.heap.size) (Nat.le_refl _) (by omega) 1 (.int .i64 y0)).drew
        clear A1 A2 R1 R2
        go_wp2_with fail
        go_region
        all_goals (try go_wp2)
        all_goals (first
          | (
              have hl := HE.out.load Try.underlying32 rfl (by kernel_rfl)
              have hm := HF.out.load Try.underlying32 rfl (by kernel_rfl)
              refine bodyPost_ret (v := .tuple #[.agg #[.int .i64 x0, .int .i64 y0], .agg #[.int .i64 x1, .int .i64 y1], .bool true]) ?_ rfl ⟨by rw [HV.out.1, HV.out.2.1, HV.out.2.2.1, HV.out.2.2.2.1, HV.out.2.2.2.2], HE.out.1⟩
              rw [results_cct rfl]
              simp [asAddr, Result.andThen, hl, hm]
              done)
          | (
              have hl := HE2.out.load Try.underlying32 rfl (by kernel_rfl)
              have hm := HF2.out.load Try.underlying32 rfl (by kernel_rfl)
              refine bodyPost_ret (v := .tuple #[.agg #[.int .i64 x0, .int .i64 y0], .agg #[.int .i64 x1, .int .i64 y1], .bool true]) ?_ rfl ⟨by rw [HV.out.1, HV.out.2.1, HV.out.2.2.1, HV.out.2.2.2.1, HV.out.2.2.2.2], HE2.out.1⟩
              rw [results_cct rfl]
              simp [asAddr, Result.andThen, hl, hm]
              done))

end Go.Proofs.Ytpbopiecfnedgab.locx
