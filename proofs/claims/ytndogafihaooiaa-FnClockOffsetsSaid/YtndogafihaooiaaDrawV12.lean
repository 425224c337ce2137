/- spec's draws DrawClockOffsets and DrawAddClockLink. -/
import Derived.Test.YtndogafihaooiaaDrawU12
namespace Go.Proofs.Ytndogafihaooiaa.drawv12
open Go.RowKit Go.Proofs.Ytndogafihaooiaa.cur Go.Proofs.Ytndogafihaooiaa.atc Go.Proofs.Ytndogafihaooiaa.ats Go.Proofs.Ytndogafihaooiaa.ints Go.Proofs.Ytndogafihaooiaa.lst Go.Proofs.Ytndogafihaooiaa.code_ Go.Proofs.Ytndogafihaooiaa.draws12 Go.Proofs.Ytndogafihaooiaa.drawt12 Go.Proofs.Ytndogafihaooiaa.drawu12 Go.Proofs.Ytndogafihaooiaa.lnka

def CQ (w : World) (e : Ending) (w' : World) : Prop := ∃ (m : Int) (v : Value) (k : Nat) (zs : List Int), e = .returned (.tuple #[.int .i64 m, v]) ∧ 0 ≤ m ∧ m ≤ 7 ∧ w'.ownsRow w.heap.size 50 3 v k (cellsI zs) ∧ k ≤ 14 ∧ Below w.heap.size w w'
set_option maxRecDepth 100000 in
set_option maxHeartbeats 4000000 in
theorem clockOffsets (A : Option Addr) (n c : Nat) (w : World) (hn : n ≤ 65536) (h : Bytes w w.heap.size A n) :
    Calls Try.prog 30 #[.slice A n c] w (CQ w) := by
  have HC0 := Lib.hid (new_cur c (by omega) h)
  have B0 := Lib.hid (newS 75 #[.slice A n c, .int .i64 0, .int .u64 0] w)
  have HZ1 := Lib.hid (show w.heap.size < (w.alloc (.cells #[.slice A n c, .int .i64 0, .int .u64 0] 75)).heap.size by rw [World.size_alloc]; omega)
  clear h
  go_enter Try.func30, Try.ntmps30
  go_upto_region 2 with fail
  generalize w.alloc (.cells #[.slice A n c, .int .i64 0, .int .u64 0] 75) = W0 at *
  go_wp2_with fail
  refine (clockLinks _ 0 W0 HC0.out (by omega)).mono ?_
  rintro e w1 ⟨m, v, k, zs, rfl, m0, m7, ho, hk, hc1, hg1⟩
  have B1 := Lib.hid (below_of_grown B0.out.1 hg1)
  have LO1 := Lib.hid (own_.own_base ho (show w.heap.size ≤ W0.heap.size by have := HZ1.out; omega))
  clear ho hc1 hg1 B0 HC0
  go_wp2_with fail
  go_ret2
  exact ⟨m, v, k, zs, rfl, m0, m7, LO1.out, hk, B1.out⟩

theorem mostL (x : Int) (w : World) (h7 : x ≤ 7) :
    Calls Try.prog 84 #[.int .i64 x, .int .i64 1] w fun e w' => (∃ r : Int, e = .returned (.int .i64 r) ∧ 1 ≤ r ∧ r ≤ 7) ∧ w = w' := by
  by_cases h : 1 < x
  · go_enter Try.func84, Try.ntmps84
    go_wp2_with fail
    go_ret
    exact ⟨⟨x, rfl, by omega, h7⟩, rfl⟩
  · go_enter Try.func84, Try.ntmps84
    go_wp2_with fail
    go_ret
    exact ⟨⟨1, rfl, by omega, by omega⟩, rfl⟩
theorem bytes_al {w : World} {A : Option Addr} {n : Nat} (o : Obj) (h : Bytes w w.heap.size A n) : Bytes (w.alloc o) (w.alloc o).heap.size A n := by
  intro h0
  obtain ⟨b, o', e, hb, hc⟩ := h h0
  exact ⟨b, o', e, by rw [World.size_alloc]; omega, fun j hj => by
    obtain ⟨x, hx⟩ := hc j hj
    exact ⟨x, by rw [World.cell?_alloc_lt w o ⟨b, o' + j, none⟩ hb]; exact hx⟩⟩
theorem at_gr {T : TypeId} {cs : Array Value} {w W W' : World} {b p : Nat} (h : AtS T cs w W b) (hg : W.grownBy W' (some p)) (hne : b ≠ p) (hp : w.heap.size ≤ p) : AtS T cs w W' b :=
  ⟨h.1.grown hg h.1.size (fun k e => by cases e; exact hp), h.2.1, Nat.lt_of_lt_of_le h.2.2.1 hg.size, (hg.block b h.2.2.1 (fun e => hne (by injection e))).trans h.2.2.2⟩
theorem results_ttc {fn : Func} {p q r : Tmp} {ty : TypeId} (h : fn.results = #[.tmp p, .tmp q, .cell r ty]) (tmps : Array Value) (P : Program) (w : World) :
    (results fn tmps).run P w = ((asAddr (tmps.getD r undef)).run P w).andThen fun a w₁ => ((loadVar ty a).run P w₁).andThen fun v w₂ => .ok (.tuple #[tmps.getD p undef, tmps.getD q undef, v]) w₂ := by
  simp only [results, h]
  simp [Sem.run_bind, Result.andThen]
theorem own_not_at {w W : World} {B g n c b : Nat} {xs : List Value} {T : TypeId} {cs : Array Value} (h : W.ownsRow B 50 3 (.slice (some ⟨g, 0, none⟩) n c) n xs) (hx : AtS T cs w W b) (hs : cs.size = 3) (hn : 2 ≤ n) : g ≠ b := fun e => by
  rcases h.2 with ⟨e1, _⟩ | ⟨g3, cap, cur, e1, _, h2, h3, _, h5, _⟩
  · cases e1
  · injection e1 with e1 _ _
    injection e1 with e1
    injection e1 with e1
    rw [← e1, e, hx.2.2.2] at h2
    injection h2 with h2
    injection h2 with h2
    rw [← h2, hs] at h5
    omega
theorem own_away3 {W : World} {B e s n b g c : Nat} {xs : List Value} (h : W.ownsRow B e s (.slice (some ⟨g, 0, none⟩) n c) n xs) (hne : g ≠ b) (i : Nat) (u : Value) : (W.setCell ⟨b, i, none⟩ u).ownsRow B e s (.slice (some ⟨g, 0, none⟩) n c) n xs :=
  own_kept_at h (grown_set (grown_refl _ (some b)) i u) (fun g' e1 e2 => by
    have e1 : some g = some g' := e1
    rw [← e1] at e2
    injection e2 with e2
    exact hne e2.symm)
def AQ (w : World) (e : Ending) (w' : World) : Prop := ∃ (m : Int) (v : Value) (k : Nat) (zs : List Int) (x y z : Int), e = .returned (.tuple #[.int .i64 m, v, .agg #[.int .i64 x, .int .i64 y, .int .i64 z]]) ∧ w'.ownsRow w.heap.size 50 3 v k (cellsI zs) ∧ k ≤ 20 ∧ Below w.heap.size w w'
set_option maxRecDepth 100000 in
set_option maxHeartbeats 16000000 in
theorem addClockLink (A : Option Addr) (n c : Nat) (w : World) (hn : n ≤ 65536) (h : Bytes w w.heap.size A n) :
    Calls Try.prog 37 #[.slice A n c] w (AQ w) := by
  obtain ⟨j0, hj, jz0, jz1, jz2⟩ := info_parts infoL
  have RB := Lib.hid ((newS 50 #[.int .i64 0, .int .i64 0, .int .i64 0] w).alloc (.cells #[.slice A n c, .int .i64 0, .int .u64 0] 75))
  have hc := new_cur c (by omega) (bytes_al (.cells #[.int .i64 0, .int .i64 0, .int .i64 0] 50) h)
  rw [World.size_alloc] at hc
  have HC := Lib.hid hc
  have hz0 : w.heap.size + 1 < ((w.alloc (.cells #[.int .i64 0, .int .i64 0, .int .i64 0] 50)).alloc (.cells #[.slice A n c, .int .i64 0, .int .u64 0] 75)).heap.size := by rw [World.size_alloc, World.size_alloc]; omega
  clear h hc
  go_enter Try.func37, Try.ntmps37
  go_upto_region 2 with fail
  generalize (w.alloc (.cells #[.int .i64 0, .int .i64 0, .int .i64 0] 50)).alloc (.cells #[.slice A n c, .int .i64 0, .int .u64 0] 75) = W0 at *
  obtain ⟨p, hpe⟩ : ∃ p, w.heap.size + 1 = p := ⟨_, rfl⟩
  rw [hpe] at HC hz0
  have hpl : w.heap.size < p := by omega
  have HZ := Lib.hid hz0
  go_wp2_with fail
  refine (clockLinks p 0 W0 HC.out (by omega)).mono ?_
  rintro e w1 ⟨mm, v, k, zs, rfl, m0, m7, ho, hk, hc1, hg1⟩
  have LO := Lib.hid ho
  have RBn := Lib.hid (at_gr RB.out hg1 (by omega) (by omega))
  clear RB
  have RB := Lib.hid RBn.out
  clear RBn
  have HCn := Lib.hid hc1
  clear HC
  have HC := Lib.hid HCn.out
  clear HCn
  obtain ⟨A1, c1, rfl, hc1'⟩ := own_capZ ho
  have hLz := hg1.size
  have HGL := Lib.hid (own_row_lt ho)
  clear ho hc1 hg1 hc1'
  go_wp2_with fail
  refine (mostL mm w1 m7).mono ?_
  rintro e w' ⟨⟨r, rfl, r1, r7⟩, rfl⟩
  go_wp2_with fail
  refine (pick p _ r w1 HC.out (by omega) r1 (by omega)).mono ?_
  rintro e w2 ⟨x, rfl, x0, x1, hc2, hg2⟩
  have LOn := Lib.hid (own_kept LO.out hg2 (fun g e => by cases e; exact HZ.out))
  clear LO
  have LO := Lib.hid LOn.out
  clear LOn
  have RBn := Lib.hid (at_gr RB.out hg2 (by omega) (by omega))
  clear RB
  have RB := Lib.hid RBn.out
  clear RBn
  have HCn := Lib.hid hc2
  clear HC
  have HC := Lib.hid HCn.out
  clear HCn
  have hs2 := hg2.size
  clear hc2 hg2 r1 r7
  go_wp2_with fail
  refine (mostL mm w2 m7).mono ?_
  rintro e w' ⟨⟨r, rfl, r1, r7⟩, rfl⟩
  go_wp2_with fail
  refine (pick p _ r w2 HC.out (by omega) r1 (by omega)).mono ?_
  rintro e w3 ⟨y, rfl, y0, y1, hc3, hg3⟩
  have LOn := Lib.hid (own_kept LO.out hg3 (fun g e => by cases e; exact HZ.out))
  clear LO
  have LO := Lib.hid LOn.out
  clear LOn
  have RBn := Lib.hid (at_gr RB.out hg3 (by omega) (by omega))
  clear RB
  have RB := Lib.hid RBn.out
  clear RBn
  have HCn := Lib.hid hc3
  clear HC
  have HC := Lib.hid HCn.out
  clear HCn
  have hs3 := hg3.size
  clear hc3 hg3 r1 r7
  go_wp2_with fail
  refine (among_new (-5) 12 p _ 4 [0, 5, -5, 12] _ w3 HC.out (by omega) (by omega) (by omega) rfl rfl (by decide)).mono ?_
  rintro e w4 ⟨z, rfl, z0, z1, hc4, hg4⟩
  have LOn := Lib.hid (own_kept LO.out hg4 (fun g e => by cases e; exact HZ.out))
  clear LO
  have LO := Lib.hid LOn.out
  clear LOn
  have RBn := Lib.hid (at_gr RB.out hg4 (by omega) (by omega))
  clear RB
  have RB := Lib.hid RBn.out
  clear RBn
  have HCn := Lib.hid hc4
  clear HC
  have HC := Lib.hid HCn.out
  clear HCn
  have hs4 := hg4.size
  have XB0 := newS 50 #[.int .i64 x, .int .i64 y, .int .i64 z] w4
  have RBn := Lib.hid (RB.out.alloc (.cells #[.int .i64 x, .int .i64 y, .int .i64 z] 50))
  have LOn := Lib.hid (LO.out.alloc (.cells #[.int .i64 x, .int .i64 y, .int .i64 z] 50))
  have HCn := Lib.hid (Cur.alloc HC.out (.cells #[.int .i64 x, .int .i64 y, .int .i64 z] 50))
  clear hc4 hg4 RB LO HC
  have RB := Lib.hid RBn.out
  have LO := Lib.hid LOn.out
  have HC := Lib.hid HCn.out
  have XB := Lib.hid (show AtS 50 #[.int .i64 x, .int .i64 y, .int .i64 z] w (w4.alloc (.cells #[.int .i64 x, .int .i64 y, .int .i64 z] 50)) w4.heap.size from ⟨RB.out.1, by omega, XB0.2.2.1, XB0.2.2.2⟩)
  clear RBn LOn HCn XB0
  go_upto_region 4 with fail
  generalize w4.alloc (.cells #[.int .i64 x, .int .i64 y, .int .i64 z] 50) = W5 at *
  generalize hbx : w4.heap.size = bx at *
  have hbp : p < bx := by omega
  clear hbx hpe
  rcases Nat.eq_zero_or_pos k with hk0 | hk0
  · subst hk0
    go_wp2_with fail
    refine (one p _ 16 W5 HC.out (by omega) (by omega) (by omega)).mono ?_
    rintro e w6 ⟨b, rfl, hc6, hg6⟩
    have LOn := Lib.hid (own_kept LO.out hg6 (fun g e => by cases e; exact HZ.out))
    clear LO
    have LO := Lib.hid LOn.out
    clear LOn
    have RBn := Lib.hid (at_gr RB.out hg6 (by omega) (by omega))
    clear RB
    have RB := Lib.hid RBn.out
    clear RBn
    have XBn := Lib.hid (at_gr XB.out hg6 (by omega) (by omega))
    clear XB
    have XB := Lib.hid XBn.out
    clear XBn
    have HCn := Lib.hid hc6
    clear HC
    have HC := Lib.hid HCn.out
    clear HCn
    clear hc6 hg6
    cases b
    · skip
      have x0_ : w6.cell? ⟨bx, 0, none⟩ = some (.int .i64 (x)) := XB.out.cell 0
      have x1_ : w6.cell? ⟨bx, 1, none⟩ = some (.int .i64 (y)) := XB.out.cell 1
      have x2_ : w6.cell? ⟨bx, 2, none⟩ = some (.int .i64 (z)) := XB.out.cell 2
      have c_0 : w6.cell? ⟨w.heap.size, 0, none⟩ = some (.int .i64 0) := RB.out.cell 0
      have c_1 : w6.cell? ⟨w.heap.size, 1, none⟩ = some (.int .i64 0) := RB.out.cell 1
      have c_2 : w6.cell? ⟨w.heap.size, 2, none⟩ = some (.int .i64 0) := RB.out.cell 2
      have f_0 : w6.frozen? ⟨w.heap.size, 0, none⟩ = false := RB.out.frozen 0
      have f_1 : w6.frozen? ⟨w.heap.size, 1, none⟩ = false := RB.out.frozen 1
      have f_2 : w6.frozen? ⟨w.heap.size, 2, none⟩ = false := RB.out.frozen 2
      have HE := Lib.hid (((RB.out.set 0 (.int .i64 (x))).set 1 (.int .i64 (y))).set 2 (.int .i64 (z))).drew
      have nb : bx ≠ w.heap.size := by omega
      have FLO := Lib.hid (own_.own_drewN (own_kept (own_kept (own_kept LO.out (grown_set (grown_refl _ (some w.heap.size)) 0 (.int .i64 (x))) (fun g e => by cases e; omega)) (grown_set (grown_refl _ (some w.heap.size)) 1 (.int .i64 (y))) (fun g e => by cases e; omega)) (grown_set (grown_refl _ (some w.heap.size)) 2 (.int .i64 (z))) (fun g e => by cases e; omega)) 1)
      clear RB XB
      go_wp2_with fail
      go_region
      all_goals (try go_wp2)
      all_goals (
        have hl := HE.out.load Try.underlying50 rfl (by kernel_rfl)
        refine bodyPost_ret (v := .tuple #[.int .i64 mm, .slice A1 0 c1, .agg #[.int .i64 (x), .int .i64 (y), .int .i64 (z)]]) ?_ rfl ⟨mm, _, 0, zs, x, y, z, rfl, own_.own_base FLO.out (by omega), by omega, HE.out.1⟩
        rw [results_ttc rfl]
        simp [asAddr, Result.andThen, hl])
    · skip
      have x0_ : w6.cell? ⟨bx, 0, none⟩ = some (.int .i64 (x)) := XB.out.cell 0
      have x1_ : w6.cell? ⟨bx, 1, none⟩ = some (.int .i64 (y)) := XB.out.cell 1
      have x2_ : w6.cell? ⟨bx, 2, none⟩ = some (.int .i64 (z)) := XB.out.cell 2
      have c_0 : w6.cell? ⟨w.heap.size, 0, none⟩ = some (.int .i64 0) := RB.out.cell 0
      have c_1 : w6.cell? ⟨w.heap.size, 1, none⟩ = some (.int .i64 0) := RB.out.cell 1
      have c_2 : w6.cell? ⟨w.heap.size, 2, none⟩ = some (.int .i64 0) := RB.out.cell 2
      have f_0 : w6.frozen? ⟨w.heap.size, 0, none⟩ = false := RB.out.frozen 0
      have f_1 : w6.frozen? ⟨w.heap.size, 1, none⟩ = false := RB.out.frozen 1
      have f_2 : w6.frozen? ⟨w.heap.size, 2, none⟩ = false := RB.out.frozen 2
      have HE := Lib.hid (((RB.out.set 0 (.int .i64 (x))).set 1 (.int .i64 (y))).set 2 (.int .i64 (z))).drew
      have nb : bx ≠ w.heap.size := by omega
      have FLO := Lib.hid (own_.own_drewN (own_kept (own_kept (own_kept LO.out (grown_set (grown_refl _ (some w.heap.size)) 0 (.int .i64 (x))) (fun g e => by cases e; omega)) (grown_set (grown_refl _ (some w.heap.size)) 1 (.int .i64 (y))) (fun g e => by cases e; omega)) (grown_set (grown_refl _ (some w.heap.size)) 2 (.int .i64 (z))) (fun g e => by cases e; omega)) 1)
      clear RB XB
      go_wp2_with fail
      go_region
      all_goals (try go_wp2)
      all_goals (
        have hl := HE.out.load Try.underlying50 rfl (by kernel_rfl)
        refine bodyPost_ret (v := .tuple #[.int .i64 mm, .slice A1 0 c1, .agg #[.int .i64 (x), .int .i64 (y), .int .i64 (z)]]) ?_ rfl ⟨mm, _, 0, zs, x, y, z, rfl, own_.own_base FLO.out (by omega), by omega, HE.out.1⟩
        rw [results_ttc rfl]
        simp [asAddr, Result.andThen, hl])
  · obtain ⟨g, cc, eA, hcc, hgB⟩ := own_pos3 LO.out hk0
    injection eA with e1 e2 e3
    subst e1
    subst e3
    have hk0i : (0 : Int) < (k : Int) := by omega
    have hZ0 := HZ.out
    have hgx : g ≠ bx := by have := HGL.out g rfl; omega
    go_wp2_with fail
    refine (one p _ 2 W5 HC.out (by omega) (by omega) (by omega)).mono ?_
    rintro e w6 ⟨b, rfl, hc6, hg6⟩
    have LOn := Lib.hid (own_kept LO.out hg6 (fun g e => by cases e; exact HZ.out))
    clear LO
    have LO := Lib.hid LOn.out
    clear LOn
    have RBn := Lib.hid (at_gr RB.out hg6 (by omega) (by omega))
    clear RB
    have RB := Lib.hid RBn.out
    clear RBn
    have XBn := Lib.hid (at_gr XB.out hg6 (by omega) (by omega))
    clear XB
    have XB := Lib.hid XBn.out
    clear XBn
    have HCn := Lib.hid hc6
    clear HC
    have HC := Lib.hid HCn.out
    clear HCn
    clear hc6 hg6
    go_upto_if 35 with fail
    go_cut [] from 35 to 61 (fun wz => ∃ x y z : Int, AtS 50 #[.int .i64 x, .int .i64 y, .int .i64 z] w wz bx ∧ AtS 50 #[.int .i64 0, .int .i64 0, .int .i64 0] w wz w.heap.size ∧ wz.ownsRow W0.heap.size 50 3 (.slice (some ⟨g, 0, none⟩) k c1) k (cellsI zs) ∧ Cur wz p 4000)
    case first =>
      cases b
      · go_wp2_with fail
        go_meet
        exact ⟨x, y, z, XB.out, RB.out, LO.out, HC.out.more (by omega)⟩
      · obtain ⟨j, hj1⟩ : ∃ j, j + 1 = k := ⟨k - 1, by omega⟩
        have e1 : IntKind.i64.wrap ((k : Int) - 1) = (j : Int) := by rw [IntWalk.i64_in _ (by omega)]; omega
        have hjk : (j : Int) < (k : Int) := by omega
        have hj0 : (0 : Int) ≤ (j : Int) := Int.natCast_nonneg _
        obtain ⟨b1, o1, eA, hbl, q0, q1, q2⟩ := lnks.cells3 (RdZ.of_own LO.out (own_len3 LO.out)) (show j < k by omega)
        obtain ⟨rfl, rfl⟩ : g = b1 ∧ 0 = o1 := by injection eA with e; injection e with e1 e2; exact ⟨e1, e2⟩
        rw [Nat.zero_add] at q0 q1 q2
        generalize fld 3 zs j 0 = u0 at *
        generalize fld 3 zs j 1 = u1 at *
        generalize fld 3 zs j 2 = u2 at *
        have x0_ : w6.cell? ⟨bx, 0, none⟩ = some (.int .i64 x) := XB.out.cell 0
        have x1_ : w6.cell? ⟨bx, 1, none⟩ = some (.int .i64 y) := XB.out.cell 1
        have x2_ : w6.cell? ⟨bx, 2, none⟩ = some (.int .i64 z) := XB.out.cell 2
        have f0_ := XB.out.frozen 0
        have f1_ := XB.out.frozen 1
        have f2_ := XB.out.frozen 2
        have X7 := Lib.hid (show AtS 50 #[.int .i64 u0, .int .i64 u1, .int .i64 u2] w (((w6.setCell ⟨bx, 0, none⟩ (.int .i64 u0)).setCell ⟨bx, 1, none⟩ (.int .i64 u1)).setCell ⟨bx, 2, none⟩ (.int .i64 u2)) bx from ((XB.out.set 0 (.int .i64 u0)).set 1 (.int .i64 u1)).set 2 (.int .i64 u2))
        have R7 := Lib.hid (((RB.out.other (b' := bx) (by omega) (by omega) 0 (.int .i64 u0)).other (b' := bx) (by omega) (by omega) 1 (.int .i64 u1)).other (b' := bx) (by omega) (by omega) 2 (.int .i64 u2))
        have L7 := Lib.hid (own_away3 (own_away3 (own_away3 LO.out hgx 0 (.int .i64 u0)) hgx 1 (.int .i64 u1)) hgx 2 (.int .i64 u2))
        have C7 := Lib.hid (Cur.set (i := 2) (v := .int .i64 u2) (Cur.set (i := 1) (v := .int .i64 u1) (Cur.set (i := 0) (v := .int .i64 u0) HC.out hbp) hbp) hbp)
        have Q0 := Lib.hid q0
        clear XB RB LO HC
        go_upto_region 6 with fail
        clear x0_ x1_ x2_ f0_ f1_ f2_ q0 q1 q2
        generalize ((w6.setCell ⟨bx, 0, none⟩ (.int .i64 u0)).setCell ⟨bx, 1, none⟩ (.int .i64 u1)).setCell ⟨bx, 2, none⟩ (.int .i64 u2) = W7 at *
        obtain ⟨b1, o1, eA, hbl, q0, q1, q2⟩ := lnks.cells3 (RdZ.of_own L7.out (own_len3 L7.out)) (show j < k by omega)
        obtain ⟨rfl, rfl⟩ : g = b1 ∧ 0 = o1 := by injection eA with e; injection e with e1 e2; exact ⟨e1, e2⟩
        rw [Nat.zero_add] at q0 q1 q2
        generalize fld 3 zs j 0 = u3 at *
        generalize fld 3 zs j 1 = u4 at *
        generalize fld 3 zs j 2 = u5 at *
        have x0_ : W7.cell? ⟨bx, 0, none⟩ = some (.int .i64 u0) := X7.out.cell 0
        have x1_ : W7.cell? ⟨bx, 1, none⟩ = some (.int .i64 u1) := X7.out.cell 1
        have x2_ : W7.cell? ⟨bx, 2, none⟩ = some (.int .i64 u2) := X7.out.cell 2
        have f0_ := X7.out.frozen 0
        have f1_ := X7.out.frozen 1
        have f2_ := X7.out.frozen 2
        obtain ⟨ng, hng⟩ : ∃ ng, IntKind.i64.wrap (-u2) = ng := ⟨_, rfl⟩
        have X8 := Lib.hid (show AtS 50 #[.int .i64 u4, .int .i64 u3, .int .i64 ng] w (((W7.setCell ⟨bx, 0, none⟩ (.int .i64 u4)).setCell ⟨bx, 1, none⟩ (.int .i64 u3)).setCell ⟨bx, 2, none⟩ (.int .i64 ng)) bx from ((X7.out.set 0 (.int .i64 u4)).set 1 (.int .i64 u3)).set 2 (.int .i64 ng))
        have R8 := Lib.hid (((R7.out.other (b' := bx) (by omega) (by omega) 0 (.int .i64 u4)).other (b' := bx) (by omega) (by omega) 1 (.int .i64 u3)).other (b' := bx) (by omega) (by omega) 2 (.int .i64 ng))
        have L8 := Lib.hid (own_away3 (own_away3 (own_away3 L7.out hgx 0 (.int .i64 u4)) hgx 1 (.int .i64 u3)) hgx 2 (.int .i64 ng))
        have C8 := Lib.hid (Cur.set (i := 2) (v := .int .i64 ng) (Cur.set (i := 1) (v := .int .i64 u3) (Cur.set (i := 0) (v := .int .i64 u4) C7.out hbp) hbp) hbp)
        have hgx2 : bx ≠ g := fun e => hgx e.symm
        clear X7 R7 L7 C7 Q0
        go_wp2_with fail
        go_meet
        exact ⟨u4, u3, ng, X8.out, R8.out, L8.out, C8.out.more (by omega)⟩
    case rest =>
      obtain ⟨x, y, z, xb, rb, lo, hc⟩ := hcut
      clear XB RB LO HC
      have XB := Lib.hid xb
      have RB := Lib.hid rb
      have LO := Lib.hid lo
      have HC := Lib.hid hc
      clear xb rb lo hc
      go_wp2_with fail
      refine (one p _ 16 wc HC.out (by omega) (by omega) (by omega)).mono ?_
      rintro e w6 ⟨b, rfl, hc6, hg6⟩
      have LOn := Lib.hid (own_kept LO.out hg6 (fun g e => by cases e; exact HZ.out))
      clear LO
      have LO := Lib.hid LOn.out
      clear LOn
      have RBn := Lib.hid (at_gr RB.out hg6 (by omega) (by omega))
      clear RB
      have RB := Lib.hid RBn.out
      clear RBn
      have XBn := Lib.hid (at_gr XB.out hg6 (by omega) (by omega))
      clear XB
      have XB := Lib.hid XBn.out
      clear XBn
      have HCn := Lib.hid hc6
      clear HC
      have HC := Lib.hid HCn.out
      clear HCn
      clear hc6 hg6
      cases b
      · skip
        have x0_ : w6.cell? ⟨bx, 0, none⟩ = some (.int .i64 (x)) := XB.out.cell 0
        have x1_ : w6.cell? ⟨bx, 1, none⟩ = some (.int .i64 (y)) := XB.out.cell 1
        have x2_ : w6.cell? ⟨bx, 2, none⟩ = some (.int .i64 (z)) := XB.out.cell 2
        have c_0 : w6.cell? ⟨w.heap.size, 0, none⟩ = some (.int .i64 0) := RB.out.cell 0
        have c_1 : w6.cell? ⟨w.heap.size, 1, none⟩ = some (.int .i64 0) := RB.out.cell 1
        have c_2 : w6.cell? ⟨w.heap.size, 2, none⟩ = some (.int .i64 0) := RB.out.cell 2
        have f_0 : w6.frozen? ⟨w.heap.size, 0, none⟩ = false := RB.out.frozen 0
        have f_1 : w6.frozen? ⟨w.heap.size, 1, none⟩ = false := RB.out.frozen 1
        have f_2 : w6.frozen? ⟨w.heap.size, 2, none⟩ = false := RB.out.frozen 2
        have HE := Lib.hid (((RB.out.set 0 (.int .i64 (x))).set 1 (.int .i64 (y))).set 2 (.int .i64 (z))).drew
        have nb : bx ≠ w.heap.size := by omega
        have FLO := Lib.hid (own_.own_drewN (own_kept (own_kept (own_kept LO.out (grown_set (grown_refl _ (some w.heap.size)) 0 (.int .i64 (x))) (fun g e => by cases e; omega)) (grown_set (grown_refl _ (some w.heap.size)) 1 (.int .i64 (y))) (fun g e => by cases e; omega)) (grown_set (grown_refl _ (some w.heap.size)) 2 (.int .i64 (z))) (fun g e => by cases e; omega)) 1)
        clear RB XB
        go_wp2_with fail
        go_region
        all_goals (try go_wp2)
        all_goals (
          have hl := HE.out.load Try.underlying50 rfl (by kernel_rfl)
          refine bodyPost_ret (v := .tuple #[.int .i64 mm, .slice (some ⟨g, 0, none⟩) k c1, .agg #[.int .i64 (x), .int .i64 (y), .int .i64 (z)]]) ?_ rfl ⟨mm, _, k, zs, x, y, z, rfl, own_.own_base FLO.out (by omega), by omega, HE.out.1⟩
          rw [results_ttc rfl]
          simp [asAddr, Result.andThen, hl])
      · go_wp2_with fail
        go_loopw [7] (fun v wr => ∃ (l g' c' : Nat) (ys : List Int), k ≤ l ∧ l ≤ 14 ∧ v = .slice (some ⟨g', 0, none⟩) l c' ∧ wr.ownsRow W0.heap.size 50 3 (.slice (some ⟨g', 0, none⟩) l c') l (cellsI ys) ∧ AtS 50 #[.int .i64 x, .int .i64 y, .int .i64 z] w wr bx ∧ AtS 50 #[.int .i64 0, .int .i64 0, .int .i64 0] w wr w.heap.size ∧ Cur wr p (5000 + 20 * l) ∧ g' ≠ bx) (fun v _ => 20 - lenV v)
        case atStart => exact ⟨k, g, c1, zs, Nat.le_refl _, hk, rfl, LO.out, XB.out, RB.out, HC.out.more (by omega), hgx⟩
        case round =>
          obtain ⟨l, g', c', ys, hkl, hl14, rfl, lo, xb, rb, hc, hgb⟩ := hrel
          clear LO XB RB HC
          have LO := Lib.hid lo
          have XB := Lib.hid xb
          have RB := Lib.hid rb
          have HC := Lib.hid hc
          clear lo xb rb hc
          have hl0i : (0 : Int) < (l : Int) := by omega
          go_wp2_with fail
          refine (pick p _ 2 wr HC.out (by omega) (by omega) (by omega)).mono ?_
          rintro e w7 ⟨r, rfl, r0, r1, hc7, hg7⟩
          have LOn := Lib.hid (own_kept LO.out hg7 (fun g e => by cases e; exact HZ.out))
          clear LO
          have LO := Lib.hid LOn.out
          clear LOn
          have RBn := Lib.hid (at_gr RB.out hg7 (by omega) (by omega))
          clear RB
          have RB := Lib.hid RBn.out
          clear RBn
          have XBn := Lib.hid (at_gr XB.out hg7 (by omega) (by omega))
          clear XB
          have XB := Lib.hid XBn.out
          clear XBn
          have HCn := Lib.hid hc7
          clear HC
          have HC := Lib.hid HCn.out
          clear HCn
          clear hc7 hg7
          have e1 : IntKind.i64.wrap (11 + r) = 11 + r := IntWalk.i64_in _ (by omega)
          by_cases hlt : (l : Int) < 11 + r
          · obtain ⟨b1, o1, eA, hbl, q0, q1, q2⟩ := lnks.cells3 (RdZ.of_own LO.out (own_len3 LO.out)) (show 0 < l by omega)
            obtain ⟨rfl, rfl⟩ : g' = b1 ∧ 0 = o1 := by injection eA with e; injection e with e1 e2; exact ⟨e1, e2⟩
            simp only [Nat.zero_mul, Nat.zero_add, Nat.add_zero] at q0 q1 q2
            generalize fld 3 ys 0 0 = u0 at *
            generalize fld 3 ys 0 1 = u1 at *
            generalize fld 3 ys 0 2 = u2 at *
            have hbs : W0.heap.size ≤ (w7.alloc (.cells #[.int .i64 u0, .int .i64 u1, .int .i64 u2] 50)).heap.size := by have := own_lt LO.out; have := own_.row_ge LO.out g' rfl; rw [World.size_alloc]; omega
            have hown := LO.out.alloc (.cells #[.int .i64 u0, .int .i64 u1, .int .i64 u2] 50)
            have XB2 := Lib.hid (XB.out.alloc (.cells #[.int .i64 u0, .int .i64 u1, .int .i64 u2] 50))
            have RB2 := Lib.hid (RB.out.alloc (.cells #[.int .i64 u0, .int .i64 u1, .int .i64 u2] 50))
            have HC2 := Lib.hid (Cur.alloc HC.out (.cells #[.int .i64 u0, .int .i64 u1, .int .i64 u2] 50))
            clear XB RB eA
            go_wp2_with (at_builtin; refine wpList_append_own _ rfl (.tmp 75) (.tmp 79) 42 rfl W0.heap.size 50 j0 (.agg #[.int .i64 0, .int .i64 0, .int .i64 0]) 3 24 Try.underlying42 hj jz0 jz1 jz2 rfl (by decide) _ l (cellsI ys) rfl hown ⟨w7.heap.size, 0, none⟩ 1 1 [.int .i64 u0, .int .i64 u1, .int .i64 u2] rfl rfl (cells_new w7 50 #[.int .i64 u0, .int .i64 u1, .int .i64 u2]) (three_cells u0 u1 u2) (by unfold maxLen; omega) (by omega) hbs ?_; intro v' w8 hown' hgrow hnil)
            have hge' := own_.row_ge LO.out g' rfl
            have hzz := HZ.out
            have hwg : w.heap.size ≤ g' := by omega
            have hwn : w.heap.size ≠ g' := by omega
            have X8 := at_gr XB2.out hgrow (fun e => hgb e.symm) hwg
            have R8 := Lib.hid (at_gr RB2.out hgrow hwn hwg)
            have C8 := Lib.hid (cur_append HC.out LO.out HZ.out (by have := own_lt LO.out; omega) hgrow)
            have O8 := own3_app hown'
            obtain ⟨g9, c9, rfl, hc9, hg9⟩ := own_pos3 O8 (Nat.succ_pos l)
            have hne9 : g9 ≠ bx := own_not_at O8 X8 rfl (by omega)
            have O8 := Lib.hid O8
            have X8 := Lib.hid X8
            clear hown' hgrow hnil hown LO XB2 RB2 HC2 HC hbs
            go_roundw
            case rel => exact ⟨l + 1, g9, c9, _, by omega, by omega, rfl, O8.out, X8.out, R8.out, C8.out.more (by omega), hne9⟩
            case measure => simp [lenV]; omega
          · skip
            have x0_ : w7.cell? ⟨bx, 0, none⟩ = some (.int .i64 (x)) := XB.out.cell 0
            have x1_ : w7.cell? ⟨bx, 1, none⟩ = some (.int .i64 (y)) := XB.out.cell 1
            have x2_ : w7.cell? ⟨bx, 2, none⟩ = some (.int .i64 (z)) := XB.out.cell 2
            have c_0 : w7.cell? ⟨w.heap.size, 0, none⟩ = some (.int .i64 0) := RB.out.cell 0
            have c_1 : w7.cell? ⟨w.heap.size, 1, none⟩ = some (.int .i64 0) := RB.out.cell 1
            have c_2 : w7.cell? ⟨w.heap.size, 2, none⟩ = some (.int .i64 0) := RB.out.cell 2
            have f_0 : w7.frozen? ⟨w.heap.size, 0, none⟩ = false := RB.out.frozen 0
            have f_1 : w7.frozen? ⟨w.heap.size, 1, none⟩ = false := RB.out.frozen 1
            have f_2 : w7.frozen? ⟨w.heap.size, 2, none⟩ = false := RB.out.frozen 2
            have HE := Lib.hid (((RB.out.set 0 (.int .i64 (x))).set 1 (.int .i64 (y))).set 2 (.int .i64 (z))).drew
            have nb : bx ≠ w.heap.size := by omega
            have FLO := Lib.hid (own_.own_drewN (own_kept (own_kept (own_kept LO.out (grown_set (grown_refl _ (some w.heap.size)) 0 (.int .i64 (x))) (fun g e => by cases e; omega)) (grown_set (grown_refl _ (some w.heap.size)) 1 (.int .i64 (y))) (fun g e => by cases e; omega)) (grown_set (grown_refl _ (some w.heap.size)) 2 (.int .i64 (z))) (fun g e => by cases e; omega)) 1)
            clear RB XB
            go_wp2_with fail
            go_region
            all_goals (try go_wp2)
            all_goals (
              have hl := HE.out.load Try.underlying50 rfl (by kernel_rfl)
              refine bodyPost_ret (v := .tuple #[.int .i64 mm, .slice (some ⟨g', 0, none⟩) l c', .agg #[.int .i64 (x), .int .i64 (y), .int .i64 (z)]]) ?_ rfl ⟨mm, _, l, ys, x, y, z, rfl, own_.own_base FLO.out (by omega), by omega, HE.out.1⟩
              rw [results_ttc rfl]
              simp [asAddr, Result.andThen, hl])
end Go.Proofs.Ytndogafihaooiaa.drawv12
