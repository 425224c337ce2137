/- impl's SectorBox. -/
import Derived.Test.YtkndfklbonkbiaaSctC
import Derived.Test.YtkndfklbonkbiaaSctR
import Derived.Laws.Small
namespace Go.Proofs.Ytkndfklbonkbiaa.sctx
open Go.RowKit Go.Proofs.Ytkndfklbonkbiaa.ints Go.Proofs.Ytkndfklbonkbiaa.lst Go.Proofs.Ytkndfklbonkbiaa.in_ Go.Proofs.Ytkndfklbonkbiaa.ats Go.Proofs.Ytkndfklbonkbiaa.pos Go.Proofs.Ytkndfklbonkbiaa.sct Go.Proofs.Ytkndfklbonkbiaa.sctt Go.Proofs.Ytkndfklbonkbiaa.sctv Go.Proofs.Ytkndfklbonkbiaa.scti Go.Proofs.Ytkndfklbonkbiaa.sctj Go.Proofs.Ytkndfklbonkbiaa.sctb Go.Proofs.Ytkndfklbonkbiaa.sctr

/-- The box: the smallest and the greatest X (Y) of a valid sector, 0 else. -/
def sbL (d : Int) (zs : List Int) (n : Nat) (f : List Int → Nat → Int) : Int := if seV d zs n then mnF (f zs) n else 0
def sbH (d : Int) (zs : List Int) (n : Nat) (f : List Int → Nat → Int) : Int := if seV d zs n then mxF (f zs) n else 0
theorem sb_no {d : Int} {zs : List Int} {n : Nat} (h : seV d zs n = false) (f : List Int → Nat → Int) : sbL d zs n f = 0 ∧ sbH d zs n f = 0 := by unfold sbL sbH; rw [h]; exact ⟨rfl, rfl⟩
theorem sb_yes {d : Int} {zs : List Int} {n : Nat} (h : seV d zs n = true) (f : List Int → Nat → Int) : sbL d zs n f = mnF (f zs) n ∧ sbH d zs n f = mxF (f zs) n := by unfold sbL sbH; rw [h]; exact ⟨rfl, rfl⟩
theorem results_cct {fn : Func} {p q r : Tmp} {ty ty' : TypeId} (h : fn.results = #[.cell p ty, .cell q ty', .tmp r]) (tmps : Array Value) (P : Program) (w : World) :
    (results fn tmps).run P w = ((asAddr (tmps.getD p undef)).run P w).andThen fun a w₁ => ((loadVar ty a).run P w₁).andThen fun v w₂ => ((asAddr (tmps.getD q undef)).run P w₂).andThen fun b w₃ => ((loadVar ty' b).run P w₃).andThen fun u w₄ => .ok (.tuple #[v, u, tmps.getD r undef]) w₄ := by
  simp only [results, h]
  simp [Sem.run_bind, Result.andThen]
/-- The two cells of a corner, at a later world. -/
theorem corner {w WZ : World} {n k b o : Nat} {zs : List Int} (h : RdZ 2 w w.heap.size (some ⟨b, o, none⟩) n zs) (hk : k < n) (hb : Below w.heap.size w WZ) :
    (WZ.cell? ⟨b, o + k * 2, none⟩ = some (.int .i64 (cX zs k)) ∧ WZ.cell? ⟨b, o + k * 2 + 1, none⟩ = some (.int .i64 (cY zs k))) ∧ b < WZ.heap.size := by
  obtain ⟨b', o', e, hl, p0, p1⟩ := cells2 h hk
  simp only [Option.some.injEq, Addr.mk.injEq, and_true] at e
  obtain ⟨rfl, rfl⟩ := e
  exact ⟨⟨(hb.cell (p := ⟨b, o + k * 2, none⟩) hl).trans p0, (hb.cell (p := ⟨b, o + k * 2 + 1, none⟩) hl).trans p1⟩, Nat.lt_of_lt_of_le hl hb.size⟩
theorem two_new (a b : Array Value) (V : World) : AtS 31 a V ((V.alloc (.cells a 31)).alloc (.cells b 31)) V.heap.size ∧ AtS 31 b V ((V.alloc (.cells a 31)).alloc (.cells b 31)) (V.heap.size + 1) := by
  have s0 := (newS 31 a V).alloc (.cells b 31)
  have s1 := (newS 31 a V).next 31 b
  rw [World.size_alloc] at s1
  exact ⟨s0, s1⟩
set_option maxRecDepth 100000 in
set_option maxHeartbeats 16000000 in
theorem sectorBox (d : Int) (zs : List Int) (A : Option Addr) (n c : Nat) (w : World) (hc : n ≤ c) (hn : n ≤ 1048576) (h1 : RdZ 2 w w.heap.size A n zs) :
    Calls Try.prog 27 #[.agg #[.int .i64 d, .slice A n c]] w fun e w' => e = .returned (.tuple #[.agg #[.int .i64 (sbL d zs n cX), .int .i64 (sbL d zs n cY)], .agg #[.int .i64 (sbH d zs n cX), .int .i64 (sbH d zs n cY)], .bool (seV d zs n)]) ∧ Below w.heap.size w w' := by
  have S0 := Lib.hid (((newS 42 #[.int .i64 d, .slice A n c] w).alloc (.cells #[.int .i64 0, .int .i64 0] 31)).alloc (.cells #[.int .i64 0, .int .i64 0] 31))
  have S1 := Lib.hid (((newS 42 #[.int .i64 d, .slice A n c] w).next 31 #[.int .i64 0, .int .i64 0]).alloc (.cells #[.int .i64 0, .int .i64 0] 31))
  rw [World.size_alloc] at S1
  have S2 := Lib.hid (((newS 42 #[.int .i64 d, .slice A n c] w).alloc (.cells #[.int .i64 0, .int .i64 0] 31)).next 31 #[.int .i64 0, .int .i64 0])
  rw [World.size_alloc, World.size_alloc] at S2
  have T0 := Lib.hid (fun W (hb : Below w.heap.size w W) => show Calls Try.prog 20 #[.agg #[.int .i64 d, .slice A n c]] W (fun e w' => e = .returned (.bool (seV d zs n)) ∧ Below W.heap.size W w') from sctc.isValidSector d zs A n c W hc hn (h1.next hb))
  cases hq : seV d zs n
  · rw [hq] at T0
    have HVX := Lib.hid (sb_no hq cX)
    have HVY := Lib.hid (sb_no hq cY)
    clear hq h1
    go_enter Try.func27, Try.ntmps27
    go_wp2_with fail
    generalize (((w.alloc (.cells #[.int .i64 d, .slice A n c] 42)).alloc (.cells #[.int .i64 0, .int .i64 0] 31)).alloc (.cells #[.int .i64 0, .int .i64 0] 31)) = W0 at *
    refine (T0.out W0 S0.out.1).mono ?_
    rintro e V0 ⟨rfl, hb⟩
    have Y1 := Lib.hid (S1.out.old hb)
    have Y2 := Lib.hid (S2.out.old hb)
    clear hb S0 S1 S2 T0
    have c0_ : V0.cell? ⟨w.heap.size + 1, 0, none⟩ = some (.int .i64 0) := Y1.out.cell 0
    have cf0_ : V0.frozen? ⟨w.heap.size + 1, 0, none⟩ = false := Y1.out.frozen 0
    have c1_ : V0.cell? ⟨w.heap.size + 1, 1, none⟩ = some (.int .i64 0) := Y1.out.cell 1
    have cf1_ : V0.frozen? ⟨w.heap.size + 1, 1, none⟩ = false := Y1.out.frozen 1
    have d0_ : V0.cell? ⟨w.heap.size + 1 + 1, 0, none⟩ = some (.int .i64 0) := Y2.out.cell 0
    have df0_ : V0.frozen? ⟨w.heap.size + 1 + 1, 0, none⟩ = false := Y2.out.frozen 0
    have d1_ : V0.cell? ⟨w.heap.size + 1 + 1, 1, none⟩ = some (.int .i64 0) := Y2.out.cell 1
    have df1_ : V0.frozen? ⟨w.heap.size + 1 + 1, 1, none⟩ = false := Y2.out.frozen 1
    have HE := Lib.hid ((((Y1.out.set 0 (.int .i64 0)).set 1 (.int .i64 0)).other (b' := w.heap.size + 1 + 1) (by omega) (by omega) 0 (.int .i64 0)).other (b' := w.heap.size + 1 + 1) (by omega) (by omega) 1 (.int .i64 0))
    have HF := Lib.hid ((((Y2.out.other (b' := w.heap.size + 1) (by omega) (by omega) 0 (.int .i64 0)).other (b' := w.heap.size + 1) (by omega) (by omega) 1 (.int .i64 0)).set 0 (.int .i64 0)).set 1 (.int .i64 0))
    clear Y1 Y2
    go_wp2_with fail
    have hl := HE.out.load Try.underlying31 rfl (by kernel_rfl)
    have hm := HF.out.load Try.underlying31 rfl (by kernel_rfl)
    refine bodyPost_ret (v := .tuple #[.agg #[.int .i64 0, .int .i64 0], .agg #[.int .i64 0, .int .i64 0], .bool false]) ?_ rfl ⟨by rw [HVX.out.1, HVX.out.2, HVY.out.1, HVY.out.2], HE.out.1⟩
    rw [results_cct rfl]
    simp [asAddr, Result.andThen, hl, hm]
  rw [hq] at T0
  have HVX := Lib.hid (sb_yes hq cX)
  have HVY := Lib.hid (sb_yes hq cY)
  obtain ⟨⟨h3, h8⟩, -⟩ := se_corner hq
  clear hq
  obtain ⟨b, o, rfl, hlb, -, -⟩ := cells2 h1 (show 0 < n by omega)
  have CC := Lib.hid (fun k (hk : k < n) WZ (hb : Below w.heap.size w WZ) => corner h1 hk hb)
  generalize cX zs = X at *
  generalize cY zs = Y at *
  clear h1 hlb
  go_enter Try.func27, Try.ntmps27
  go_wp2_with fail
  generalize (((w.alloc (.cells #[.int .i64 d, .slice (some ⟨b, o, none⟩) n c] 42)).alloc (.cells #[.int .i64 0, .int .i64 0] 31)).alloc (.cells #[.int .i64 0, .int .i64 0] 31)) = W0 at *
  refine (T0.out W0 S0.out.1).mono ?_
  rintro e V0 ⟨rfl, hb⟩
  have Y0 := Lib.hid (S0.out.old hb)
  have Y1 := Lib.hid (S1.out.old hb)
  have Y2 := Lib.hid (S2.out.old hb)
  have lv7 : w.heap.size + 1 + 1 < V0.heap.size := Nat.lt_of_lt_of_le S2.out.2.2.1 hb.size
  clear hb S0 S1 S2 T0
  have hN2 : (0 : Int) < (n : Int) := by omega
  have hN3 : 0 < n := by omega
  have hN4 : ¬ n = 0 := by omega
  have C0 := Lib.hid (fun WZ (hb : Below V0.heap.size V0 WZ) => show WZ.cell? ⟨w.heap.size, 1, none⟩ = some (.slice (some ⟨b, o, none⟩) n c) ∧ WZ.cell? ⟨b, o, none⟩ = some (.int .i64 (X 0)) ∧ WZ.cell? ⟨b, o + 1, none⟩ = some (.int .i64 (Y 0)) from by
    have h := (CC.out 0 (by omega) WZ (Y0.out.1.trans (hb.mono Y0.out.1.size))).1
    rw [Nat.zero_mul, Nat.add_zero] at h
    exact ⟨(Y0.out.old hb).cell 1, h.1, h.2⟩)
  generalize hx0 : X 0 = x0 at *
  generalize hy0 : Y 0 = y0 at *
  have HX0 := Lib.hid hx0
  have HY0 := Lib.hid hy0
  clear hx0 hy0
  have XA := Lib.hid (two_new #[.int .i64 x0, .int .i64 y0] #[.int .i64 x0, .int .i64 y0] V0)
  go_upto_region 3 with fail
  go_cut [5, 6] from 14 to 21 (fun p q wz => ∃ pL pH, p = .pointer (some ⟨pL, 0, none⟩) ∧ q = .pointer (some ⟨pH, 0, none⟩) ∧ pL ≠ pH ∧ AtS 31 #[.int .i64 x0, .int .i64 y0] V0 wz pL ∧ AtS 31 #[.int .i64 x0, .int .i64 y0] V0 wz pH)
  case first =>
    go_region_held3 (fun w' => w'.cell? ⟨w.heap.size, 1, none⟩ = some (.slice (some ⟨b, o, none⟩) n c) ∧ w'.cell? ⟨b, o, none⟩ = some (.int .i64 x0) ∧ w'.cell? ⟨b, o + 1, none⟩ = some (.int .i64 y0)) (first
      | exact C0.out _ (Below.refl V0.heap.size V0).drew
      | exact C0.out _ ((Below.refl V0.heap.size V0).alloc (Nat.le_refl _) _).drew
      | exact C0.out _ (((Below.refl V0.heap.size V0).alloc (Nat.le_refl _) _).alloc (by rw [World.size_alloc]; omega) _).drew
      | go_keep) (fail)
    all_goals (
      go_wp2_with fail
      go_meet
      first
      | exact ⟨_, _, rfl, rfl, by omega, XA.out.1.drew, XA.out.2.drew⟩
      | exact ⟨_, _, rfl, rfl, by omega, XA.out.2.drew, XA.out.1.drew⟩)
  case rest =>
    obtain ⟨pL, pH, rfl, rfl, hne, a1, a2⟩ := hcut
    generalize wc = V4 at *
    have HLo := Lib.hid a1
    have HHi := Lib.hid a2
    have Z0 := Lib.hid (Y0.out.old a1.1)
    have Z1 := Lib.hid (Y1.out.old a1.1)
    have Z2 := Lib.hid (Y2.out.old a1.1)
    have l0 : V0.heap.size ≤ pL := a1.2.1
    have h0 : V0.heap.size ≤ pH := a2.2.1
    have n1_ : pL ≠ pH := hne
    have n2_ : pH ≠ pL := fun h => hne h.symm
    clear a1 a2 hne C0 XA Y0 Y1 Y2
    have s1_ : V4.cell? ⟨w.heap.size, 1, none⟩ = some (.slice (some ⟨b, o, none⟩) n c) := Z0.out.cell 1
    go_wp2_with fail
    clear s1_
    go_loopw [25] (fun i wr => ∃ k : Nat, 0 ≤ k ∧ k ≤ n ∧ i = .int .i64 k ∧ AtS 31 #[.int .i64 (mnF X k), .int .i64 (mnF Y k)] V0 wr pL ∧ AtS 31 #[.int .i64 (mxF X k), .int .i64 (mxF Y k)] V0 wr pH ∧ AtS 42 #[.int .i64 d, .slice (some ⟨b, o, none⟩) n c] w wr w.heap.size ∧ AtS 31 #[.int .i64 0, .int .i64 0] w wr (w.heap.size + 1) ∧ AtS 31 #[.int .i64 0, .int .i64 0] w wr (w.heap.size + 1 + 1)) (fun i _ => n - (intOf i).toNat)
    case atStart =>
      refine ⟨0, Nat.le_refl _, by omega, rfl, ?_, ?_, Z0.out, Z1.out, Z2.out⟩
      · show AtS 31 #[.int .i64 (X 0), .int .i64 (Y 0)] V0 _ pL
        rw [HX0.out, HY0.out]; exact HLo.out
      · show AtS 31 #[.int .i64 (X 0), .int .i64 (Y 0)] V0 _ pH
        rw [HX0.out, HY0.out]; exact HHi.out
    case round =>
      obtain ⟨k, hk1, hk, rfl, ha1, ha2, hs0, hr1, hr2⟩ := hrel
      have A1 := Lib.hid ha1
      have A2 := Lib.hid ha2
      have R0 := Lib.hid hs0
      have R1 := Lib.hid hr1
      have R2 := Lib.hid hr2
      clear ha1 ha2 hr1 hr2 hs0 HLo HHi Z0 Z1 Z2 HX0 HY0
      have s1_ : wr.cell? ⟨w.heap.size, 1, none⟩ = some (.slice (some ⟨b, o, none⟩) n c) := R0.out.cell 1
      by_cases hlt : k < n
      · have hlt2 : (k : Int) < (n : Int) := by omega
        have hk0 : (0 : Int) ≤ (k : Int) := Int.natCast_nonneg _
        obtain ⟨⟨p0_, p1_⟩, lb⟩ := CC.out k hlt wr R0.out.1
        have HL0 := Lib.hid (show mnF X (k + 1) = (if X k < mnF X k then X k else mnF X k) from by rw [mnF]; split <;> omega)
        have HL1 := Lib.hid (show mnF Y (k + 1) = (if Y k < mnF Y k then Y k else mnF Y k) from by rw [mnF]; split <;> omega)
        have HH0 := Lib.hid (show mxF X (k + 1) = (if mxF X k < X k then X k else mxF X k) from by rw [mxF]; split <;> omega)
        have HH1 := Lib.hid (show mxF Y (k + 1) = (if mxF Y k < Y k then Y k else mxF Y k) from by rw [mxF]; split <;> omega)
        clear CC
        generalize hu1 : mnF X k = u0 at *
        generalize hu2 : mnF Y k = u1 at *
        generalize hu3 : mxF X k = v0 at *
        generalize hu4 : mxF Y k = v1 at *
        clear hu1 hu2 hu3 hu4
        generalize X k = x at *
        generalize Y k = y at *
        have a0_ : wr.cell? ⟨pL, 0, none⟩ = some (.int .i64 u0) := A1.out.cell 0
        have a1_ : wr.cell? ⟨pL, 1, none⟩ = some (.int .i64 u1) := A1.out.cell 1
        have af0_ : wr.frozen? ⟨pL, 0, none⟩ = false := A1.out.frozen 0
        have af1_ : wr.frozen? ⟨pL, 1, none⟩ = false := A1.out.frozen 1
        have b0_ : wr.cell? ⟨pH, 0, none⟩ = some (.int .i64 v0) := A2.out.cell 0
        have b1_ : wr.cell? ⟨pH, 1, none⟩ = some (.int .i64 v1) := A2.out.cell 1
        have bf0_ : wr.frozen? ⟨pH, 0, none⟩ = false := A2.out.frozen 0
        have bf1_ : wr.frozen? ⟨pH, 1, none⟩ = false := A2.out.frozen 1
        have alt_ : pL < wr.heap.size := A1.out.2.2.1
        have blt_ : pH < wr.heap.size := A2.out.2.2.1
        go_wp2_with fail
        go_roundw
        case rel =>
          refine ⟨k + 1, by omega, by omega, by go_num, ?_, ?_, ?_, ?_, ?_⟩
          · rw [HL0.out, HL1.out]
            exact ((((A1.out.set 0 _).set 1 _).other (b' := pH) (by omega) (by omega) 0 _).other (b' := pH) (by omega) (by omega) 1 _).alloc _
          · rw [HH0.out, HH1.out]
            exact ((((A2.out.other (b' := pL) (by omega) (by omega) 0 _).other (b' := pL) (by omega) (by omega) 1 _).set 0 _).set 1 _).alloc _
          · exact ((((R0.out.other (b' := pL) (by omega) (by omega) 0 _).other (b' := pL) (by omega) (by omega) 1 _).other (b' := pH) (by omega) (by omega) 0 _).other (b' := pH) (by omega) (by omega) 1 _).alloc _
          · exact ((((R1.out.other (b' := pL) (by omega) (by omega) 0 _).other (b' := pL) (by omega) (by omega) 1 _).other (b' := pH) (by omega) (by omega) 0 _).other (b' := pH) (by omega) (by omega) 1 _).alloc _
          · exact ((((R2.out.other (b' := pL) (by omega) (by omega) 0 _).other (b' := pL) (by omega) (by omega) 1 _).other (b' := pH) (by omega) (by omega) 0 _).other (b' := pH) (by omega) (by omega) 1 _).alloc _
        case measure => simp [intOf]; omega
      · obtain rfl : k = n := by omega
        clear CC
        generalize mnF X k = x0 at *
        generalize mnF Y k = y0 at *
        generalize mxF X k = x1 at *
        generalize mxF Y k = y1 at *
        have c0_ : wr.cell? ⟨w.heap.size + 1, 0, none⟩ = some (.int .i64 0) := R1.out.cell 0
        have cf0_ : wr.frozen? ⟨w.heap.size + 1, 0, none⟩ = false := R1.out.frozen 0
        have c1_ : wr.cell? ⟨w.heap.size + 1, 1, none⟩ = some (.int .i64 0) := R1.out.cell 1
        have cf1_ : wr.frozen? ⟨w.heap.size + 1, 1, none⟩ = false := R1.out.frozen 1
        have d0_ : wr.cell? ⟨w.heap.size + 1 + 1, 0, none⟩ = some (.int .i64 0) := R2.out.cell 0
        have df0_ : wr.frozen? ⟨w.heap.size + 1 + 1, 0, none⟩ = false := R2.out.frozen 0
        have d1_ : wr.cell? ⟨w.heap.size + 1 + 1, 1, none⟩ = some (.int .i64 0) := R2.out.cell 1
        have df1_ : wr.frozen? ⟨w.heap.size + 1 + 1, 1, none⟩ = false := R2.out.frozen 1
        have a0_ : wr.cell? ⟨pL, 0, none⟩ = some (.int .i64 x0) := A1.out.cell 0
        have a1_ : wr.cell? ⟨pL, 1, none⟩ = some (.int .i64 y0) := A1.out.cell 1
        have b0_ : wr.cell? ⟨pH, 0, none⟩ = some (.int .i64 x1) := A2.out.cell 0
        have b1_ : wr.cell? ⟨pH, 1, none⟩ = some (.int .i64 y1) := A2.out.cell 1
        have m0_ : pL ≠ w.heap.size + 1 := by omega
        have m1_ : pL ≠ w.heap.size + 1 + 1 := by omega
        have m2_ : pH ≠ w.heap.size + 1 := by omega
        have m3_ : pH ≠ w.heap.size + 1 + 1 := by omega
        have m4_ : w.heap.size + 1 ≠ pL := by omega
        have m5_ : w.heap.size + 1 + 1 ≠ pL := by omega
        have m6_ : w.heap.size + 1 ≠ pH := by omega
        have m7_ : w.heap.size + 1 + 1 ≠ pH := by omega
        have HE := Lib.hid ((((R1.out.set 0 (.int .i64 x0)).set 1 (.int .i64 y0)).other (b' := w.heap.size + 1 + 1) (by omega) (by omega) 0 (.int .i64 x1)).other (b' := w.heap.size + 1 + 1) (by omega) (by omega) 1 (.int .i64 y1)).drew
        have HF := Lib.hid ((((R2.out.other (b' := w.heap.size + 1) (by omega) (by omega) 0 (.int .i64 x0)).other (b' := w.heap.size + 1) (by omega) (by omega) 1 (.int .i64 y0)).set 0 (.int .i64 x1)).set 1 (.int .i64 y1)).drew
        have HE2 := Lib.hid ((((R1.out.other (b' := w.heap.size + 1 + 1) (by omega) (by omega) 0 (.int .i64 x1)).other (b' := w.heap.size + 1 + 1) (by omega) (by omega) 1 (.int .i64 y1)).set 0 (.int .i64 x0)).set 1 (.int .i64 y0)).drew
        have HF2 := Lib.hid ((((R2.out.set 0 (.int .i64 x1)).set 1 (.int .i64 y1)).other (b' := w.heap.size + 1) (by omega) (by omega) 0 (.int .i64 x0)).other (b' := w.heap.size + 1) (by omega) (by omega) 1 (.int .i64 y0)).drew
        clear A1 A2 R1 R2 R0
        go_wp2_with fail
        go_region
        all_goals (try go_wp2)
        all_goals (first
          | (
              have hl := HE.out.load Try.underlying31 rfl (by kernel_rfl)
              have hm := HF.out.load Try.underlying31 rfl (by kernel_rfl)
              refine bodyPost_ret (v := .tuple #[.agg #[.int .i64 x0, .int .i64 y0], .agg #[.int .i64 x1, .int .i64 y1], .bool true]) ?_ rfl ⟨by rw [HVX.out.1, HVX.out.2, HVY.out.1, HVY.out.2], HE.out.1⟩
              rw [results_cct rfl]
              simp [asAddr, Result.andThen, hl, hm]
              done)
          | (
              have hl := HE2.out.load Try.underlying31 rfl (by kernel_rfl)
              have hm := HF2.out.load Try.underlying31 rfl (by kernel_rfl)
              refine bodyPost_ret (v := .tuple #[.agg #[.int .i64 x0, .int .i64 y0], .agg #[.int .i64 x1, .int .i64 y1], .bool true]) ?_ rfl ⟨by rw [HVX.out.1, HVX.out.2, HVY.out.1, HVY.out.2], HE2.out.1⟩
              rw [results_cct rfl]
              simp [asAddr, Result.andThen, hl, hm]
              done))
end Go.Proofs.Ytkndfklbonkbiaa.sctx
