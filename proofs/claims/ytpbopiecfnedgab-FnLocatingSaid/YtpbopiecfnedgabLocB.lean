/- BestPoint of both. -/
import Derived.Test.YtpbopiecfnedgabLocS
import Derived.Test.YtpbopiecfnedgabLocI
namespace Go.Proofs.Ytpbopiecfnedgab.locb
open Go.RowKit Go.Proofs.Ytpbopiecfnedgab.ints Go.Proofs.Ytpbopiecfnedgab.lst Go.Proofs.Ytpbopiecfnedgab.sit Go.Proofs.Ytpbopiecfnedgab.in_ Go.Proofs.Ytpbopiecfnedgab.ats Go.Proofs.Ytpbopiecfnedgab.sits Go.Proofs.Ytpbopiecfnedgab.loc

theorem results_ctt {fn : Func} {p u v : Tmp} {ty : TypeId} (h : fn.results = #[.cell p ty, .tmp u, .tmp v]) (tmps : Array Value) (P : Program) (w : World) :
    (results fn tmps).run P w = ((asAddr (tmps.getD p undef)).run P w).andThen fun a w₁ => ((loadVar ty a).run P w₁).andThen fun x w₂ => .ok (.tuple #[x, tmps.getD u undef, tmps.getD v undef]) w₂ := by
  simp only [results, h]
  simp [Sem.run_bind, Result.andThen]

set_option maxRecDepth 100000 in
theorem everyBest (g1 g2 p8 p7 : Nat) (Inv : Nat → World → Prop) (hstep : ∀ k, k < 961 → ∀ W, Inv k W → Calls Try.prog 73 #[.agg #[.int .i64 (pX k), .int .i64 (pY k)], .pointer (some ⟨g1, 0, none⟩), .pointer (some ⟨g2, 0, none⟩), .pointer (some ⟨p8, 0, none⟩), .pointer (some ⟨p7, 0, none⟩)] W fun e w' => e = .returned (.tuple #[]) ∧ Inv (k + 1) w') (w : World) (h0 : Inv 0 w) :
    Calls Try.prog 72 #[.func (.func 73) #[] #[.pointer (some ⟨g1, 0, none⟩), .pointer (some ⟨g2, 0, none⟩), .pointer (some ⟨p8, 0, none⟩), .pointer (some ⟨p7, 0, none⟩)]] w fun e w' => e = .returned (.tuple #[]) ∧ Inv 961 w' := by
  have HS := Lib.hid (fun (x y : Nat) (hx : x < 31) (hy : y < 31) W (h : Inv (y * 31 + x) W) => (show Calls Try.prog 73 #[.agg #[.int .i64 (x : Int), .int .i64 (y : Int)], .pointer (some ⟨g1, 0, none⟩), .pointer (some ⟨g2, 0, none⟩), .pointer (some ⟨p8, 0, none⟩), .pointer (some ⟨p7, 0, none⟩)] W fun e w' => e = .returned (.tuple #[]) ∧ Inv (y * 31 + (x + 1)) w' from by
    have hq := p_row (y := y) hx
    have := hstep (y * 31 + x) (by omega) W h
    rw [hq.1, hq.2] at this
    exact this))
  have H0 := Lib.hid h0
  clear hstep h0
  go_enter Try.func72, Try.ntmps72
  go_wp2_with fail
  go_loopw [4] (fun i wr => ∃ y : Nat, y ≤ 31 ∧ i = .int .i64 y ∧ Inv (y * 31) wr) (fun i _ => 31 - (intOf i).toNat)
  case atStart => exact ⟨0, by omega, rfl, H0.out⟩
  case round =>
    obtain ⟨y, hy, rfl, hinv⟩ := hrel
    clear H0
    have HI := Lib.hid hinv
    clear hinv
    by_cases hlt : y < 31
    · have hlt2 : (y : Int) < 31 := by omega
      go_wp2_with fail
      go_loopw [7] (fun i wr => ∃ x : Nat, x ≤ 31 ∧ i = .int .i64 x ∧ Inv (y * 31 + x) wr) (fun i _ => 31 - (intOf i).toNat)
      case atStart => exact ⟨0, by omega, rfl, HI.out⟩
      case round =>
        obtain ⟨x, hx, rfl, hinv⟩ := hrel
        clear HI
        by_cases hxt : x < 31
        · have hxt2 : (x : Int) < 31 := by omega
          have C := Lib.hid (HS.out x y hxt hlt wr hinv)
          clear hinv
          go_wp2_with fail
          refine C.out.mono ?_
          rintro e w2 ⟨rfl, hinv⟩
          have HI := Lib.hid hinv
          clear hinv C
          go_wp2_with fail
          go_roundw
          case rel => exact ⟨x + 1, by omega, by go_num, HI.out⟩
          case measure => simp [intOf]; omega
        · obtain rfl : x = 31 := by omega
          have HI := Lib.hid hinv
          have HK := Lib.hid (show (y + 1) * 31 = y * 31 + 31 by omega)
          clear hinv
          go_wp2_with fail
          go_roundw
          case rel => exact ⟨y + 1, by omega, by go_num, by rw [HK.out]; exact HI.out⟩
          case measure => simp [intOf]; omega
    · obtain rfl : y = 31 := by omega
      go_wp2_with fail
      go_end0
      exact ⟨rfl, HI.out⟩

/-- What BestPoint holds when k points have been visited. -/
def BestSt (zs xs : List Int) (n : Nat) (c q : Nat) (A C : Option Addr) (w : World) (p7 p8 k : Nat) (W : World) : Prop :=
  AtS 29 #[.slice A n c] w W w.heap.size ∧ AtS 23 #[.slice C n q] w W (w.heap.size + 1) ∧ AtS 32 #[.int .i64 0, .int .i64 0] w W (w.heap.size + 1 + 1) ∧
  AtS 32 #[.int .i64 (pX (btT zs xs n k)), .int .i64 (pY (btT zs xs n k))] w W p7 ∧ AtS 3 #[.int .i64 (sq zs xs n (btT zs xs n k))] w W p8

set_option maxRecDepth 100000 in
set_option maxHeartbeats 4000000 in
theorem bestStep (zs xs : List Int) (n : Nat) (c q : Nat) (A C : Option Addr) (w : World) (h0 : 0 < n) (hn : n ≤ 1048576) (hon : onT zs n = true) (hai : aiT xs n = true) (h1 : RdZ 2 w w.heap.size A n zs) (h2 : RdI w w.heap.size C n xs) (p7 p8 : Nat) (h7 : w.heap.size + 1 + 1 < p7) (h8 : p7 < p8) (k : Nat) (hk : k < 961) (W : World) (h : BestSt zs xs n c q A C w p7 p8 k W) :
    Calls Try.prog 73 #[.agg #[.int .i64 (pX k), .int .i64 (pY k)], .pointer (some ⟨w.heap.size, 0, none⟩), .pointer (some ⟨w.heap.size + 1, 0, none⟩), .pointer (some ⟨p8, 0, none⟩), .pointer (some ⟨p7, 0, none⟩)] W fun e w' => e = .returned (.tuple #[]) ∧ BestSt zs xs n c q A C w p7 p8 (k + 1) w' := by
  obtain ⟨a1, a2, a3, a4, a5⟩ := h
  have SX := Lib.hid (newS 32 #[.int .i64 (pX k), .int .i64 (pY k)] W)
  have CO := Lib.hid (fun WZ (hb : Below W.heap.size W WZ) => (show Calls Try.prog 67 #[.agg #[.int .i64 (pX k), .int .i64 (pY k)], .slice A n c, .slice C n q] WZ fun e w' => e = .returned (.int .i64 (sq zs xs n k)) ∧ Below WZ.heap.size WZ w' from
    loci.spreadOf zs xs (pX k) (pY k) A C n c q WZ h0 hn hon (p_on hk) hai (h1.next (a1.1.trans (hb.mono a1.1.size))) (h2.next (a1.1.trans (hb.mono a1.1.size)))))
  have HY := Lib.hid (fun h => btT_yes (zs := zs) (xs := xs) (n := n) (k := k) h)
  have HN := Lib.hid (fun h => btT_no (zs := zs) (xs := xs) (n := n) (k := k) h)
  have A1 := Lib.hid a1
  have A2 := Lib.hid a2
  have A3 := Lib.hid a3
  have A4 := Lib.hid a4
  have A5 := Lib.hid a5
  have HS := Lib.hid (show ∃ s, sq zs xs n k = s from ⟨_, rfl⟩)
  clear a1 a2 a3 a4 a5 h1 h2 hon hai
  unfold BestSt
  generalize btT zs xs n (k + 1) = j2 at *
  generalize btT zs xs n k = j at *
  generalize hs1 : sq zs xs n k = s at *
  have HS1 := Lib.hid hs1
  clear hs1 HS
  generalize hz1 : sq zs xs n j = z at *
  have HZ1 := Lib.hid hz1
  clear hz1
  generalize hx1 : pX k = x at *
  generalize hy1 : pY k = y at *
  have HX1 := Lib.hid hx1
  have HY1 := Lib.hid hy1
  clear hx1 hy1
  go_enter Try.func73, Try.ntmps73
  go_upto_region 1 with fail
  generalize W.alloc (.cells #[.int .i64 x, .int .i64 y] 32) = WX at *
  have c0_ : WX.cell? ⟨W.heap.size, 0, none⟩ = some (.int .i64 x) := SX.out.cell 0
  have c1_ : WX.cell? ⟨W.heap.size, 1, none⟩ = some (.int .i64 y) := SX.out.cell 1
  have c2_ : WX.cell? ⟨w.heap.size, 0, none⟩ = some (.slice A n c) := (A1.out.old SX.out.1).cell 0
  have c3_ : WX.cell? ⟨w.heap.size + 1, 0, none⟩ = some (.slice C n q) := (A2.out.old SX.out.1).cell 0
  go_wp2_with fail
  refine (CO.out WX SX.out.1).mono ?_
  rintro e wy ⟨rfl, hb⟩
  have hw := SX.out.1.trans (hb.mono SX.out.1.size)
  have S2 := Lib.hid (SX.out.old hb)
  have D1 := Lib.hid (A1.out.old hw)
  have D2 := Lib.hid (A2.out.old hw)
  have D3 := Lib.hid (A3.out.old hw)
  have D4 := Lib.hid (A4.out.old hw)
  have D5 := Lib.hid (A5.out.old hw)
  clear c0_ c1_ c2_ c3_ hb hw CO A1 A2 A3 A4 A5 SX
  have c5_ : wy.cell? ⟨p8, 0, none⟩ = some (.int .i64 z) := D5.out.cell 0
  by_cases hs : s < z
  · have HE := Lib.hid (HY.out hs)
    have d0_ : wy.cell? ⟨W.heap.size, 0, none⟩ = some (.int .i64 x) := S2.out.cell 0
    have d1_ : wy.cell? ⟨W.heap.size, 1, none⟩ = some (.int .i64 y) := S2.out.cell 1
    have d2_ : wy.cell? ⟨p7, 0, none⟩ = some (.int .i64 (pX j)) := D4.out.cell 0
    have d3_ : wy.cell? ⟨p7, 1, none⟩ = some (.int .i64 (pY j)) := D4.out.cell 1
    have f2_ : wy.frozen? ⟨p7, 0, none⟩ = false := D4.out.frozen 0
    have f3_ : wy.frozen? ⟨p7, 1, none⟩ = false := D4.out.frozen 1
    have f5_ : wy.frozen? ⟨p8, 0, none⟩ = false := D5.out.frozen 0
    have n1_ : p7 ≠ p8 := by omega
    have n2_ : p8 ≠ p7 := by omega
    clear HY HN
    go_wp2_with fail
    go_end0
    have L7 : w.heap.size ≤ p7 := by omega
    have L8 : w.heap.size ≤ p8 := by omega
    refine ⟨rfl, ((D1.out.other L7 (by omega) 0 _).other L7 (by omega) 1 _).other L8 (by omega) 0 _, ((D2.out.other L7 (by omega) 0 _).other L7 (by omega) 1 _).other L8 (by omega) 0 _, ((D3.out.other L7 (by omega) 0 _).other L7 (by omega) 1 _).other L8 (by omega) 0 _, ?_, ?_⟩
    · rw [HE.out, HX1.out, HY1.out]
      exact ((D4.out.set 0 (.int .i64 x)).set 1 (.int .i64 y)).other L8 (by omega) 0 _
    · rw [HE.out, HS1.out]
      exact ((D5.out.other L7 (by omega) 0 _).other L7 (by omega) 1 _).set 0 (.int .i64 s)
  · have HE := Lib.hid (HN.out (by omega))
    have hs3 : z ≤ s := by omega
    clear HY HN
    go_wp2_with fail
    go_end0
    refine ⟨rfl, D1.out, D2.out, D3.out, ?_, ?_⟩
    · rw [HE.out]; exact D4.out
    · rw [HE.out, HZ1.out]; exact D5.out

set_option maxRecDepth 100000 in
set_option maxHeartbeats 4000000 in
theorem bestI (zs xs : List Int) (A C : Option Addr) (n c m q : Nat) (w : World) (hc : n ≤ c) (hn : n ≤ 1048576) (hm : m ≤ 1048576) (h1 : RdZ 2 w w.heap.size A n zs) (h2 : RdI w w.heap.size C m xs) :
    Calls Try.prog 28 #[.slice A n c, .slice C m q] w fun e w' => e = .returned (.tuple #[.agg #[.int .i64 (bpX zs n xs m), .int .i64 (bpY zs n xs m)], .int .i64 (bpS zs n xs m), .bool (arB zs n xs m)]) ∧ Below w.heap.size w w' := by
  have T := Lib.hid (fun W (hb : Below w.heap.size w W) => siti.areArrivals zs xs A C n c m q W hc (by omega) (by omega) (h1.next hb) (h2.next hb))
  have X1 := Lib.hid (((newS 29 #[.slice A n c] w).alloc (.cells #[.slice C m q] 23)).alloc (.cells #[.int .i64 0, .int .i64 0] 32))
  have X2 := Lib.hid (((newS 29 #[.slice A n c] w).next 23 #[.slice C m q]).alloc (.cells #[.int .i64 0, .int .i64 0] 32))
  have X3 := Lib.hid (((newS 29 #[.slice A n c] w).alloc (.cells #[.slice C m q] 23)).next 32 #[.int .i64 0, .int .i64 0])
  rw [World.size_alloc] at X2
  rw [World.size_alloc, World.size_alloc] at X3
  have H1 := Lib.hid h1
  have H2 := Lib.hid h2
  clear h1 h2
  cases hq : arB zs n xs m
  · rw [hq] at T
    have HV := Lib.hid (bp_no hq)
    clear H1 H2 hq
    go_enter Try.func28, Try.ntmps28
    go_wp2_with fail
    generalize ((w.alloc (.cells #[.slice A n c] 29)).alloc (.cells #[.slice C m q] 23)).alloc (.cells #[.int .i64 0, .int .i64 0] 32) = W0 at *
    refine (T.out W0 X1.out.1).mono ?_
    rintro e V0 ⟨rfl, hb⟩
    have Y1 := Lib.hid (X1.out.old hb)
    have Y2 := Lib.hid (X2.out.old hb)
    have Y3 := Lib.hid (X3.out.old hb)
    clear hb X1 X2 X3
    have c0_ : V0.cell? ⟨w.heap.size + 1 + 1, 0, none⟩ = some (.int .i64 0) := Y3.out.cell 0
    have c1_ : V0.cell? ⟨w.heap.size + 1 + 1, 1, none⟩ = some (.int .i64 0) := Y3.out.cell 1
    have f0_ : V0.frozen? ⟨w.heap.size + 1 + 1, 0, none⟩ = false := Y3.out.frozen 0
    have f1_ : V0.frozen? ⟨w.heap.size + 1 + 1, 1, none⟩ = false := Y3.out.frozen 1
    have HE := Lib.hid ((Y3.out.set 0 (.int .i64 0)).set 1 (.int .i64 0))
    go_wp2_with fail
    have hl := HE.out.load Try.underlying32 rfl (by kernel_rfl)
    refine bodyPost_ret (v := .tuple #[.agg #[.int .i64 0, .int .i64 0], .int .i64 0, .bool false]) ?_ rfl ⟨by rw [HV.out.1, HV.out.2.1, HV.out.2.2], HE.out.1⟩
    rw [results_ctt rfl]
    simp [asAddr, Result.andThen, hl]
  · rw [hq] at T
    have HV := Lib.hid (bp_yes hq)
    obtain rfl : m = n := (arB_yes hq).2.2
    have h0 := (siB_yes (arB_yes hq).2.1).1
    have CO := Lib.hid (fun WZ (hb : Below w.heap.size w WZ) => (show Calls Try.prog 67 #[.agg #[.int .i64 0, .int .i64 0], .slice A m c, .slice C m q] WZ fun e w' => e = .returned (.int .i64 (sq zs xs m 0)) ∧ Below WZ.heap.size WZ w' from
      loci.spreadOf zs xs (pX 0) (pY 0) A C m c q WZ h0 hn (siB_yes (arB_yes hq).2.1).2.2.1 (p_on (by omega)) (arB_yes hq).1 (H1.out.next hb) (H2.out.next hb)))
    have EV := Lib.hid (fun p7 p8 (h7 : w.heap.size + 1 + 1 < p7) (h8 : p7 < p8) W (h : BestSt zs xs m c q A C w p7 p8 0 W) => everyBest w.heap.size (w.heap.size + 1) p8 p7 (fun k W => BestSt zs xs m c q A C w p7 p8 k W) (fun k hk W h => bestStep zs xs m c q A C w h0 hn (siB_yes (arB_yes hq).2.1).2.2.1 (arB_yes hq).1 H1.out H2.out p7 p8 h7 h8 k hk W h) W h)
    clear H1 H2 hq
    go_enter Try.func28, Try.ntmps28
    go_wp2_with fail
    generalize ((w.alloc (.cells #[.slice A m c] 29)).alloc (.cells #[.slice C m q] 23)).alloc (.cells #[.int .i64 0, .int .i64 0] 32) = W0 at *
    refine (T.out W0 X1.out.1).mono ?_
    rintro e V0 ⟨rfl, hb⟩
    have Y1 := Lib.hid (X1.out.old hb)
    have Y2 := Lib.hid (X2.out.old hb)
    have Y3 := Lib.hid (X3.out.old hb)
    clear hb X1 X2 X3
    have c0_ : V0.cell? ⟨w.heap.size + 1 + 1, 0, none⟩ = some (.int .i64 0) := Y3.out.cell 0
    have c1_ : V0.cell? ⟨w.heap.size + 1 + 1, 1, none⟩ = some (.int .i64 0) := Y3.out.cell 1
    have f0_ : V0.frozen? ⟨w.heap.size + 1 + 1, 0, none⟩ = false := Y3.out.frozen 0
    have f1_ : V0.frozen? ⟨w.heap.size + 1 + 1, 1, none⟩ = false := Y3.out.frozen 1
    have B7 := Lib.hid (newS 32 #[.int .i64 0, .int .i64 0] V0)
    clear c0_ c1_ f0_ f1_
    go_upto_region 4 with fail
    generalize V0.alloc (.cells #[.int .i64 0, .int .i64 0] 32) = V1 at *
    have Z1 := Lib.hid (Y1.out.old B7.out.1)
    have Z2 := Lib.hid (Y2.out.old B7.out.1)
    have Z3 := Lib.hid (Y3.out.old B7.out.1)
    have L7 := Lib.hid (show w.heap.size + 1 + 1 < V0.heap.size from Y3.out.2.2.1)
    have c0_ : V1.cell? ⟨V0.heap.size, 0, none⟩ = some (.int .i64 0) := B7.out.cell 0
    have c1_ : V1.cell? ⟨V0.heap.size, 1, none⟩ = some (.int .i64 0) := B7.out.cell 1
    have c2_ : V1.cell? ⟨w.heap.size, 0, none⟩ = some (.slice A m c) := Z1.out.cell 0
    have c3_ : V1.cell? ⟨w.heap.size + 1, 0, none⟩ = some (.slice C m q) := Z2.out.cell 0
    have BW := Lib.hid (show Below w.heap.size w V1 from Z1.out.1)
    have B7w := Lib.hid (show AtS 32 #[.int .i64 0, .int .i64 0] w V1 V0.heap.size from ⟨Z1.out.1, Nat.le_trans Y1.out.1.size (Nat.le_refl _), B7.out.2.2.1, B7.out.2.2.2⟩)
    clear Y1 Y2 Y3 B7
    go_wp2_with fail
    refine (CO.out V1 BW.out).mono ?_
    rintro e V2 ⟨rfl, hb⟩
    have U1 := Lib.hid (Z1.out.old hb)
    have U2 := Lib.hid (Z2.out.old hb)
    have U3 := Lib.hid (Z3.out.old hb)
    have U4 := Lib.hid (B7w.out.old hb)
    have L8 := Lib.hid (show V0.heap.size < V2.heap.size from Nat.lt_of_lt_of_le B7w.out.2.2.1 hb.size)
    clear c0_ c1_ c2_ c3_ hb Z1 Z2 Z3 B7w CO
    have F0 := Lib.hid (show BestSt zs xs m c q A C w V0.heap.size V2.heap.size 0 (V2.alloc (.cells #[.int .i64 (sq zs xs m 0)] 3)) from by
      unfold BestSt
      rw [show btT zs xs m 0 = 0 from rfl, show pX 0 = 0 from rfl, show pY 0 = 0 from rfl]
      exact ⟨U1.out.alloc _, U2.out.alloc _, U3.out.alloc _, U4.out.alloc _, U4.out.next 3 #[.int .i64 (sq zs xs m 0)]⟩)
    clear U1 U2 U3 U4
    generalize hsq : sq zs xs m 0 = s0 at *
    clear hsq
    generalize hP7 : V0.heap.size = p7 at *
    generalize hP8 : V2.heap.size = p8 at *
    clear hP7
    go_wp2_with fail
    refine (EV.out p7 p8 L7.out L8.out _ F0.out).mono ?_
    rintro e V3 ⟨rfl, b1, b2, b3, b4, b5⟩
    have D3 := Lib.hid b3
    have D4 := Lib.hid b4
    have D5 := Lib.hid b5
    clear b1 b2 b3 b4 b5 F0 EV hP8
    generalize btT zs xs m 961 = j at *
    generalize sq zs xs m j = s at *
    generalize pX j = x at *
    generalize pY j = y at *
    have l7 := L7.out
    have l8 := L8.out
    clear L7 L8
    have c4_ : V3.cell? ⟨p7, 0, none⟩ = some (.int .i64 x) := D4.out.cell 0
    have c5_ : V3.cell? ⟨p7, 1, none⟩ = some (.int .i64 y) := D4.out.cell 1
    have c6_ : V3.cell? ⟨p8, 0, none⟩ = some (.int .i64 s) := D5.out.cell 0
    have c0_ : V3.cell? ⟨w.heap.size + 1 + 1, 0, none⟩ = some (.int .i64 0) := D3.out.cell 0
    have c1_ : V3.cell? ⟨w.heap.size + 1 + 1, 1, none⟩ = some (.int .i64 0) := D3.out.cell 1
    have f0_ : V3.frozen? ⟨w.heap.size + 1 + 1, 0, none⟩ = false := D3.out.frozen 0
    have f1_ : V3.frozen? ⟨w.heap.size + 1 + 1, 1, none⟩ = false := D3.out.frozen 1
    have n1_ : p7 ≠ w.heap.size + 1 + 1 := by omega
    have n2_ : p8 ≠ w.heap.size + 1 + 1 := by omega
    have n3_ : w.heap.size + 1 + 1 ≠ p7 := by omega
    have n4_ : w.heap.size + 1 + 1 ≠ p8 := by omega
    have HE := Lib.hid ((D3.out.set 0 (.int .i64 x)).set 1 (.int .i64 y)).drew
    clear D3 D4 D5
    go_wp2_with fail
    go_region
    all_goals (try go_wp2)
    all_goals (
      have hl := HE.out.load Try.underlying32 rfl (by kernel_rfl)
      refine bodyPost_ret (v := .tuple #[.agg #[.int .i64 x, .int .i64 y], .int .i64 s, .bool true]) ?_ rfl ⟨by rw [HV.out.1, HV.out.2.1, HV.out.2.2], HE.out.1⟩
      rw [results_ctt rfl]
      simp [asAddr, Result.andThen, hl]
    )

set_option maxRecDepth 100000 in
set_option maxHeartbeats 8000000 in
theorem bestS (zs xs : List Int) (A C : Option Addr) (n c m q : Nat) (w : World) (hn : n ≤ 1048576) (hm : m ≤ 1048576) (h1 : RdZ 2 w w.heap.size A n zs) (h2 : RdI w w.heap.size C m xs) :
    Calls Try.prog 27 #[.slice A n c, .slice C m q] w fun e w' => e = .returned (.tuple #[.agg #[.int .i64 (bpX zs n xs m), .int .i64 (bpY zs n xs m)], .int .i64 (bpS zs n xs m), .bool (arB zs n xs m)]) ∧ Below w.heap.size w w' := by
  have T := Lib.hid (fun W (hb : Below w.heap.size w W) => sits.asked10 zs xs A C n c m q W (by omega) (by omega) (h1.next hb) (h2.next hb))
  have X3 := Lib.hid (newS 32 #[.int .i64 0, .int .i64 0] w)
  have H1 := Lib.hid h1
  have H2 := Lib.hid h2
  clear h1 h2
  cases hq : arB zs n xs m
  · rw [hq] at T
    have HV := Lib.hid (bp_no hq)
    clear H1 H2 hq
    go_enter Try.func27, Try.ntmps27
    go_wp2_with fail
    generalize w.alloc (.cells #[.int .i64 0, .int .i64 0] 32) = W0 at *
    refine (T.out W0 X3.out.1).mono ?_
    rintro e V0 ⟨rfl, hb⟩
    have Y3 := Lib.hid (X3.out.old hb)
    clear hb X3
    have c0_ : V0.cell? ⟨w.heap.size, 0, none⟩ = some (.int .i64 0) := Y3.out.cell 0
    have c1_ : V0.cell? ⟨w.heap.size, 1, none⟩ = some (.int .i64 0) := Y3.out.cell 1
    have f0_ : V0.frozen? ⟨w.heap.size, 0, none⟩ = false := Y3.out.frozen 0
    have f1_ : V0.frozen? ⟨w.heap.size, 1, none⟩ = false := Y3.out.frozen 1
    have HE := Lib.hid ((Y3.out.set 0 (.int .i64 0)).set 1 (.int .i64 0))
    go_wp2_with fail
    have hl := HE.out.load Try.underlying32 rfl (by kernel_rfl)
    refine bodyPost_ret (v := .tuple #[.agg #[.int .i64 0, .int .i64 0], .int .i64 0, .bool false]) ?_ rfl ⟨by rw [HV.out.1, HV.out.2.1, HV.out.2.2], HE.out.1⟩
    rw [results_ctt rfl]
    simp [asAddr, Result.andThen, hl]
  · rw [hq] at T
    have HV := Lib.hid (bp_yes hq)
    obtain rfl : m = n := (arB_yes hq).2.2
    have h0 := (siB_yes (arB_yes hq).2.1).1
    have CO := Lib.hid (fun (x y : Nat) (hx : x < 31) (hy : y < 31) (W : World) (hb : Below w.heap.size w W) => show Calls Try.prog 64 #[.slice A m c, .slice C m q, .agg #[.int .i64 (x : Int), .int .i64 (y : Int)]] W fun e w' => e = .returned (.int .i64 (sq zs xs m (y * 31 + x))) ∧ Below W.heap.size W w' from by
      have hq2 := p_row (y := y) hx
      have hp := p_on (k := y * 31 + x) (by omega)
      unfold sq
      rw [hq2.1, hq2.2] at hp ⊢
      exact locs.spread11 zs xs x y A C m c q W h0 hn (siB_yes (arB_yes hq).2.1).2.2.1 hp (arB_yes hq).1 (H1.out.next hb) (H2.out.next hb))
    have HNN := Lib.hid (fun j (hj : j < 961) => (sp_in (x := pX j) (y := pY j) h0 (siB_yes (arB_yes hq).2.1).2.2.1 (arB_yes hq).1 (p_on hj)).1)
    have HPO := Lib.hid (fun k (hk : 0 < k) (hk2 : k ≤ 961) => bsM_in (zs := zs) (xs := xs) (n := m) (k := k) (fun j hj => HNN.out j hj) hk hk2)
    have H01 := Lib.hid (bsM_one zs xs m)
    have HY := Lib.hid (fun k (hk : 0 < k) h => bsM_yes (zs := zs) (xs := xs) (n := m) (k := k) hk h)
    have HN := Lib.hid (fun k (hk : 0 < k) h => bsM_no (zs := zs) (xs := xs) (n := m) (k := k) hk h)
    have HR := Lib.hid (fun x y (h : x < 31) => p_row (x := x) (y := y) h)
    have HM0 := Lib.hid (show bsM zs xs m 0 = -1 from rfl)
    have E0 := Lib.hid (show pX (btT zs xs m (0 * 31)) = 0 ∧ pY (btT zs xs m (0 * 31)) = 0 from by constructor <;> simp [btT, pX, pY])
    have HM9 := Lib.hid (show bsM zs xs m 961 = sq zs xs m (btT zs xs m 961) from by unfold bsM; rw [if_neg (by omega)])
    clear H1 H2 hq
    go_enter Try.func27, Try.ntmps27
    go_wp2_with fail
    generalize w.alloc (.cells #[.int .i64 0, .int .i64 0] 32) = W0 at *
    refine (T.out W0 X3.out.1).mono ?_
    rintro e V0 ⟨rfl, hb⟩
    have Y3 := Lib.hid (X3.out.old hb)
    clear hb X3 T
    have B7 := Lib.hid (Y3.out.next 32 #[.int .i64 0, .int .i64 0])
    have Y4 := Lib.hid (Y3.out.alloc (.cells #[.int .i64 0, .int .i64 0] 32))
    have l7 : w.heap.size < V0.heap.size := Y3.out.2.2.1
    clear Y3
    go_upto_region 4 with fail
    generalize V0.alloc (.cells #[.int .i64 0, .int .i64 0] 32) = V1 at *
    generalize V0.heap.size = p7 at *
    go_wp2_with fail
    go_loopw [8, 9] (fun s i wr => ∃ y : Nat, y ≤ 31 ∧ i = .int .i64 y ∧ s = .int .i64 (bsM zs xs m (y * 31)) ∧ AtS 32 #[.int .i64 (pX (btT zs xs m (y * 31))), .int .i64 (pY (btT zs xs m (y * 31)))] w wr p7 ∧ AtS 32 #[.int .i64 0, .int .i64 0] w wr w.heap.size) (fun _ i _ => 31 - (intOf i).toNat)
    case atStart => exact ⟨0, by omega, rfl, rfl, by rw [E0.out.1, E0.out.2]; exact B7.out, Y4.out⟩
    case round =>
      obtain ⟨y, hy, rfl, rfl, ha, hr⟩ := hrel
      have HA := Lib.hid ha
      have HB := Lib.hid hr
      clear B7 Y4 ha hr
      by_cases hlt : y < 31
      · have hlt2 : (y : Int) ≤ 30 := by omega
        go_wp2_with fail
        go_loopw [8, 10] (fun s i wr => ∃ x : Nat, x ≤ 31 ∧ i = .int .i64 x ∧ s = .int .i64 (bsM zs xs m (y * 31 + x)) ∧ AtS 32 #[.int .i64 (pX (btT zs xs m (y * 31 + x))), .int .i64 (pY (btT zs xs m (y * 31 + x)))] w wr p7 ∧ AtS 32 #[.int .i64 0, .int .i64 0] w wr w.heap.size) (fun _ i _ => 31 - (intOf i).toNat)
        case atStart => exact ⟨0, by omega, rfl, rfl, HA.out, HB.out⟩
        case round =>
          obtain ⟨x, hx, rfl, rfl, ha, hr⟩ := hrel
          clear HA HB
          by_cases hxt : x < 31
          · have hxt2 : (x : Int) ≤ 30 := by omega
            have SX := Lib.hid (newS 32 #[.int .i64 (x : Int), .int .i64 (y : Int)] wr)
            have C := Lib.hid (fun W hw => CO.out x y hxt hlt W hw)
            have HRk := Lib.hid (HR.out x y hxt)
            have HYk := Lib.hid (HY.out (y * 31 + x))
            have HNk := Lib.hid (HN.out (y * 31 + x))
            have HPk := Lib.hid (HPO.out (y * 31 + x))
            have HA := Lib.hid ha
            have HB := Lib.hid hr
            have HK := Lib.hid (show y * 31 + (x + 1) = y * 31 + x + 1 from rfl)
            have hk9 : y * 31 + x < 961 := by omega
            clear ha hr
            generalize y * 31 + x = K at *
            have p0_ := HA.out.cell 0
            have p1_ := HA.out.cell 1
            clear p0_ p1_
            generalize hs1 : sq zs xs m K = s at *
            have HS1 := Lib.hid hs1
            clear hs1
            go_wp2_with fail
            generalize wr.alloc (.cells #[.int .i64 (x : Int), .int .i64 (y : Int)] 32) = WX at *
            refine (C.out WX (HA.out.1.trans (SX.out.1.mono HA.out.1.size))).mono ?_
            rintro e w2 ⟨rfl, hb2⟩
            have hw := SX.out.1.trans (hb2.mono SX.out.1.size)
            have S2 := Lib.hid (SX.out.old hb2)
            have D4 := Lib.hid (HA.out.old hw)
            have D3 := Lib.hid (HB.out.old hw)
            clear hb2 hw SX C HA HB
            have d0_ : w2.cell? ⟨wr.heap.size, 0, none⟩ = some (.int .i64 (x : Int)) := S2.out.cell 0
            have d1_ : w2.cell? ⟨wr.heap.size, 1, none⟩ = some (.int .i64 (y : Int)) := S2.out.cell 1
            have d2_ : w2.cell? ⟨p7, 0, none⟩ = some (.int .i64 (pX (btT zs xs m K))) := D4.out.cell 0
            have d3_ : w2.cell? ⟨p7, 1, none⟩ = some (.int .i64 (pY (btT zs xs m K))) := D4.out.cell 1
            have f2_ : w2.frozen? ⟨p7, 0, none⟩ = false := D4.out.frozen 0
            have f3_ : w2.frozen? ⟨p7, 1, none⟩ = false := D4.out.frozen 1
            generalize hX : pX (btT zs xs m K) = u at *
            generalize hY : pY (btT zs xs m K) = v at *
            have HX := Lib.hid hX
            have HYY := Lib.hid hY
            clear hX hY
            have E4 := Lib.hid ((D4.out.set 0 (.int .i64 (x : Int))).set 1 (.int .i64 (y : Int)))
            have E3 := Lib.hid ((D3.out.other (b' := p7) (by omega) (by omega) 0 (.int .i64 (x : Int))).other (b' := p7) (by omega) (by omega) 1 (.int .i64 (y : Int)))
            by_cases hK : K = 0
            · have hz : bsM zs xs m K = -1 := by rw [hK]; exact HM0.out
              have HE := Lib.hid (show btT zs xs m (K + 1) = K ∧ bsM zs xs m (K + 1) = sq zs xs m K by have := H01.out; rw [hK]; exact this)
              generalize bsM zs xs m K = z at *
              subst hz
              clear hK HYk HNk HPk D4 D3
              go_wp2_with fail
              go_roundw
              case rel => exact ⟨x + 1, by omega, by go_num, by rw [HK.out, HE.out.2, HS1.out], by rw [HK.out, HE.out.1, HRk.out.1, HRk.out.2]; exact E4.out, E3.out⟩
              case measure => simp [intOf]; omega
            · have hz := HPk.out (by omega) (by omega)
              have HYq := Lib.hid (fun h => HYk.out (by omega) h)
              have HNq := Lib.hid (fun h => HNk.out (by omega) h)
              clear HPk HYk HNk
              generalize hz' : bsM zs xs m K = z at *
              have HZ' := Lib.hid hz'
              clear hz'
              have hz2 : ¬ z < 0 := by omega
              by_cases hs : s < z
              · have HE := Lib.hid (HYq.out hs)
                clear HYq HNq D4 D3
                go_wp2_with fail
                go_roundw
                case rel => exact ⟨x + 1, by omega, by go_num, by rw [HK.out, HE.out.2], by rw [HK.out, HE.out.1, HRk.out.1, HRk.out.2]; exact E4.out, E3.out⟩
                case measure => simp [intOf]; omega
              · have HE := Lib.hid (HNq.out (by omega))
                have hs3 : z ≤ s := by omega
                clear HYq HNq E3 E4
                go_wp2_with fail
                go_roundw
                case rel => exact ⟨x + 1, by omega, by go_num, by rw [HK.out, HE.out.2], by rw [HK.out, HE.out.1, HX.out, HYY.out]; exact D4.out, D3.out⟩
                case measure => simp [intOf]; omega
          · obtain rfl : x = 31 := by omega
            have HA := Lib.hid ha
            have HB := Lib.hid hr
            have HK := Lib.hid (show (y + 1) * 31 = y * 31 + 31 by omega)
            clear ha hr
            generalize hz' : bsM zs xs m (y * 31 + 31) = z at *
            have HZ' := Lib.hid hz'
            clear hz'
            go_wp2_with fail
            go_roundw
            case rel => exact ⟨y + 1, by omega, by go_num, by rw [HK.out, HZ'.out], by rw [HK.out]; exact HA.out, HB.out⟩
            case measure => simp [intOf]; omega
      · obtain rfl : y = 31 := by omega
        have hz' : bsM zs xs m (31 * 31) = sq zs xs m (btT zs xs m 961) := HM9.out
        have HA2 := Lib.hid (show AtS 32 #[.int .i64 (pX (btT zs xs m 961)), .int .i64 (pY (btT zs xs m 961))] w wr p7 from HA.out)
        clear HA HM9
        rw [hz']
        clear hz'
        generalize btT zs xs m 961 = j at *
        generalize sq zs xs m j = s at *
        generalize pX j = x at *
        generalize pY j = y at *
        have c4_ : wr.cell? ⟨p7, 0, none⟩ = some (.int .i64 x) := HA2.out.cell 0
        have c5_ : wr.cell? ⟨p7, 1, none⟩ = some (.int .i64 y) := HA2.out.cell 1
        have c0_ : wr.cell? ⟨w.heap.size, 0, none⟩ = some (.int .i64 0) := HB.out.cell 0
        have c1_ : wr.cell? ⟨w.heap.size, 1, none⟩ = some (.int .i64 0) := HB.out.cell 1
        have f0_ : wr.frozen? ⟨w.heap.size, 0, none⟩ = false := HB.out.frozen 0
        have f1_ : wr.frozen? ⟨w.heap.size, 1, none⟩ = false := HB.out.frozen 1
        have HE := Lib.hid ((HB.out.set 0 (.int .i64 x)).set 1 (.int .i64 y))
        clear HA2 HB
        go_wp2_with fail
        have hl := HE.out.load Try.underlying32 rfl (by kernel_rfl)
        refine bodyPost_ret (v := .tuple #[.agg #[.int .i64 x, .int .i64 y], .int .i64 s, .bool true]) ?_ rfl ⟨by rw [HV.out.1, HV.out.2.1, HV.out.2.2], HE.out.1⟩
        rw [results_ctt rfl]
        simp [asAddr, Result.andThen, hl]

end Go.Proofs.Ytpbopiecfnedgab.locb
