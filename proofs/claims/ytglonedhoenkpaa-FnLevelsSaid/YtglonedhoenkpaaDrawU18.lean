/- spec's draws for FnClearances and FnLevels. -/
import Derived.Test.YtglonedhoenkpaaDrawT18
import Derived.Test.YtglonedhoenkpaaDrawV8
import Derived.OwnWalk
namespace Go.Proofs.Ytglonedhoenkpaa.drawu18
set_option linter.unusedVariables false
set_option linter.unusedSimpArgs false
open Go.RowKit Go.Proofs.Ytglonedhoenkpaa.cur Go.Proofs.Ytglonedhoenkpaa.atc Go.Proofs.Ytglonedhoenkpaa.ats Go.Proofs.Ytglonedhoenkpaa.ints Go.Proofs.Ytglonedhoenkpaa.lst Go.Proofs.Ytglonedhoenkpaa.code_ Go.Proofs.Ytglonedhoenkpaa.tailh Go.Proofs.Ytglonedhoenkpaa.draws18 Go.Proofs.Ytglonedhoenkpaa.drawt18 Go.Proofs.Ytglonedhoenkpaa.lvl

theorem own_setbox {W : World} {B e s n b : Nat} {v : Value} {xs : List Value} (h : W.ownsRow B e s v n xs) (hlt : b < B) (i : Nat) (u : Value) : (W.setCell ⟨b, i, none⟩ u).ownsRow B e s v n xs :=
  own_kept_at h (grown_set (grown_refl _ (some b)) i u) (fun g e e2 => by injection e2 with e2; have := own_.row_ge h g e; omega)
theorem bytes_al {w : World} {A : Option Addr} {n : Nat} (o : Obj) (h : Bytes w w.heap.size A n) : Bytes (w.alloc o) (w.alloc o).heap.size A n := by
  intro h0
  obtain ⟨b, o', e, hb, hc⟩ := h h0
  exact ⟨b, o', e, by rw [World.size_alloc]; omega, fun j hj => by
    obtain ⟨x, hx⟩ := hc j hj
    exact ⟨x, (World.cell?_alloc_lt w _ ⟨b, o' + j, none⟩ hb).trans hx.1, hx.2⟩⟩
theorem at_grown {T : TypeId} {cs : Array Value} {w W W' : World} {b p : Nat} (h : AtS T cs w W b) (hg : W.grownBy W' (some p)) (hne : b ≠ p) (hp : w.heap.size ≤ p) : AtS T cs w W' b :=
  ⟨h.1.grown hg h.1.size (fun g e => by injection e with e; omega), h.2.1, Nat.lt_of_lt_of_le h.2.2.1 hg.size, (hg.block b h.2.2.1 (fun e => hne (by injection e))).trans h.2.2.2⟩
theorem results_tc {fn : Func} {p q : Tmp} {ty : TypeId} (h : fn.results = #[.tmp p, .cell q ty]) (tmps : Array Value) (P : Program) (w : World) :
    (results fn tmps).run P w = ((asAddr (tmps.getD q undef)).run P w).andThen fun a w₁ => ((loadVar ty a).run P w₁).andThen fun v w₂ => .ok (.tuple #[tmps.getD p undef, v]) w₂ := by
  simp only [results, h]
  simp [Sem.run_bind, Result.andThen]
theorem results_t4 {fn : Func} {t u v x : Tmp} (h : fn.results = #[.tmp t, .tmp u, .tmp v, .tmp x]) (tmps : Array Value) (P : Program) (w : World) :
    (results fn tmps).run P w = .ok (.tuple #[tmps.getD t undef, tmps.getD u undef, tmps.getD v undef, tmps.getD x undef]) w := by
  simp [results, h]
def OwL (w w' : World) (v : Value) (k : Nat) (zs : List Int) : Prop := w'.ownsRow w.heap.size 26 5 v k (cellsI zs)
def ClearQ (w : World) (e : Ending) (w' : World) : Prop := ∃ v k zs x0 x1 x2 x3 x4, e = .returned (.tuple #[v, .agg #[.int .i64 x0, .int .i64 x1, .int .i64 x2, .int .i64 x3, .int .i64 x4]]) ∧ w'.ownsRow w.heap.size 26 5 v k (cellsI zs) ∧ k ≤ 12 ∧ Below w.heap.size w w'
def RelQ (w : World) (e : Ending) (w' : World) : Prop := ∃ v k zs t, e = .returned (.tuple #[v, .int .i64 t]) ∧ w'.ownsRow w.heap.size 26 5 v k (cellsI zs) ∧ k ≤ 12 ∧ Below w.heap.size w w'
def AtQ (w : World) (e : Ending) (w' : World) : Prop := ∃ v k zs a t, e = .returned (.tuple #[v, .int .i64 a, .int .i64 t]) ∧ w'.ownsRow w.heap.size 26 5 v k (cellsI zs) ∧ k ≤ 12 ∧ Below w.heap.size w w'
def FreeQ (w : World) (e : Ending) (w' : World) : Prop := ∃ v k zs a f t, e = .returned (.tuple #[v, .int .i64 a, .int .i64 f, .int .i64 t]) ∧ w'.ownsRow w.heap.size 26 5 v k (cellsI zs) ∧ k ≤ 12 ∧ Below w.heap.size w w'
set_option maxRecDepth 100000 in
set_option maxHeartbeats 8000000 in
theorem clearLevels (A : Option Addr) (n c0 : Nat) (w : World) (hn : n ≤ 65536) (h : Bytes w w.heap.size A n) :
    Calls Try.prog 15 #[.slice A n c0] w (ClearQ w) := by
  have Q0 := Lib.hid ((newS 26 #[.int .i64 0, .int .i64 0, .int .i64 0, .int .i64 0, .int .i64 0] w).alloc (.cells #[.slice A n c0, .int .i64 0, .int .u64 0] 79))
  have hc := new_cur c0 (by omega) (bytes_al (.cells #[.int .i64 0, .int .i64 0, .int .i64 0, .int .i64 0, .int .i64 0] 26) h)
  have HZ := Lib.hid (show ((w.alloc (.cells #[.int .i64 0, .int .i64 0, .int .i64 0, .int .i64 0, .int .i64 0] 26)).alloc (.cells #[.slice A n c0, .int .i64 0, .int .u64 0] 79)).heap.size = w.heap.size + 1 + 1 from by rw [World.size_alloc, World.size_alloc])
  rw [World.size_alloc] at hc
  have HC0 := Lib.hid hc
  clear h hc
  go_enter Try.func15, Try.ntmps15
  go_wp2_with fail
  generalize (w.alloc (.cells #[.int .i64 0, .int .i64 0, .int .i64 0, .int .i64 0, .int .i64 0] 26)).alloc (.cells #[.slice A n c0, .int .i64 0, .int .u64 0] 79) = W0 at *
  refine (clearances _ 0 W0 HC0.out (by omega)).mono ?_
  rintro e w1 ⟨v, k, zs, rfl, ho, hk, hc, hg⟩
  obtain ⟨A1, c1, rfl⟩ := own_sliceZ ho
  have Q1 := Lib.hid (at_grown Q0.out hg (by omega) (by omega))
  have L1 := Lib.hid ho
  have C1 := Lib.hid hc
  clear ho hc hg Q0 HC0
  go_wp2_with fail
  refine (cleared _ _ w1 C1.out (by omega)).mono ?_
  rintro e w2 ⟨x0, x1, x2, x3, x4, rfl, hc, hg⟩
  have Q2 := Lib.hid (at_grown Q1.out hg (by omega) (by omega))
  have L2 := Lib.hid (own_kept L1.out hg (fun g e => by cases e; rw [HZ.out]; omega))
  clear hc hg Q1 L1 C1
  have q0_ : w2.cell? ⟨w.heap.size, 0, none⟩ = some (.int .i64 0) := Q2.out.cell 0
  have qf0_ := Q2.out.frozen 0
  have q1_ : w2.cell? ⟨w.heap.size, 1, none⟩ = some (.int .i64 0) := Q2.out.cell 1
  have qf1_ := Q2.out.frozen 1
  have q2_ : w2.cell? ⟨w.heap.size, 2, none⟩ = some (.int .i64 0) := Q2.out.cell 2
  have qf2_ := Q2.out.frozen 2
  have q3_ : w2.cell? ⟨w.heap.size, 3, none⟩ = some (.int .i64 0) := Q2.out.cell 3
  have qf3_ := Q2.out.frozen 3
  have q4_ : w2.cell? ⟨w.heap.size, 4, none⟩ = some (.int .i64 0) := Q2.out.cell 4
  have qf4_ := Q2.out.frozen 4
  have HE := Lib.hid (((((Q2.out.set 0 (.int .i64 x0)).set 1 (.int .i64 x1)).set 2 (.int .i64 x2)).set 3 (.int .i64 x3)).set 4 (.int .i64 x4))
  have HL := Lib.hid (own_setbox (own_setbox (own_setbox (own_setbox (own_setbox L2.out (b := w.heap.size) (by rw [HZ.out]; omega) 0 (.int .i64 x0)) (b := w.heap.size) (by rw [HZ.out]; omega) 1 (.int .i64 x1)) (b := w.heap.size) (by rw [HZ.out]; omega) 2 (.int .i64 x2)) (b := w.heap.size) (by rw [HZ.out]; omega) 3 (.int .i64 x3)) (b := w.heap.size) (by rw [HZ.out]; omega) 4 (.int .i64 x4))
  go_wp2_with fail
  have hl := HE.out.load Try.underlying26 rfl (by kernel_rfl)
  refine bodyPost_ret (v := .tuple #[.slice A1 k c1, .agg #[.int .i64 x0, .int .i64 x1, .int .i64 x2, .int .i64 x3, .int .i64 x4]]) ?_ rfl ⟨_, k, zs, x0, x1, x2, x3, x4, rfl, own_.own_base HL.out (by rw [HZ.out]; omega), hk, HE.out.1⟩
  rw [results_tc rfl]
  simp [asAddr, Result.andThen, hl]
set_option maxRecDepth 100000 in
set_option maxHeartbeats 8000000 in
theorem releaseLevels (A : Option Addr) (n c0 : Nat) (w : World) (hn : n ≤ 65536) (h : Bytes w w.heap.size A n) :
    Calls Try.prog 24 #[.slice A n c0] w (RelQ w) := by
  have HC0 := Lib.hid (new_cur c0 (by omega) h)
  have HZ := Lib.hid (show w.heap.size < (w.alloc (.cells #[.slice A n c0, .int .i64 0, .int .u64 0] 79)).heap.size by rw [World.size_alloc]; omega)
  have B0 := Lib.hid ((newS 79 #[.slice A n c0, .int .i64 0, .int .u64 0] w).1)
  clear h
  go_enter Try.func24, Try.ntmps24
  go_wp2_with fail
  generalize w.alloc (.cells #[.slice A n c0, .int .i64 0, .int .u64 0] 79) = W0 at *
  refine (clearances _ 0 W0 HC0.out (by omega)).mono ?_
  rintro e w1 ⟨v, k, zs, rfl, ho, hk, hc, hg⟩
  obtain ⟨A1, c1, rfl⟩ := own_sliceZ ho
  have hle := Nat.le_of_lt HZ.out
  have L1 := Lib.hid ho
  have C1 := Lib.hid hc
  have B1 := Lib.hid (below_of_grown B0.out hg)
  clear ho hc hg B0 HC0
  go_wp2_with fail
  have BW := Lib.hid (show ∀ x ∈ ([0, 5, 10, 25, 100, 1440, -1, 1441] : List Int), -1 ≤ x ∧ x ≤ 1441 by decide)
  refine (pick w.heap.size _ 24 (w1.alloc (.cells #[.int .i64 0, .int .i64 5, .int .i64 10, .int .i64 25, .int .i64 100, .int .i64 1440, .int .i64 (-1), .int .i64 1441] 3)) (Cur.alloc C1.out (.cells #[.int .i64 0, .int .i64 5, .int .i64 10, .int .i64 25, .int .i64 100, .int .i64 1440, .int .i64 (-1), .int .i64 1441] 3)) (by omega) (by omega) (by omega)).mono ?_
  rintro e w2 ⟨r, rfl, r0, r1, hc2, hg2⟩
  obtain ⟨rn, rfl⟩ := Int.eq_ofNat_of_zero_le r0
  obtain ⟨q, hq⟩ : ∃ q, q = rn / 11 := ⟨_, rfl⟩
  have q1 : (rn : Int).tdiv 11 = (q : Int) := by rw [hq]; rfl
  have e1 : IntKind.i64.wrap ((rn : Int).tdiv 11) = (q : Int) := by rw [q1, IntWalk.i64_in _ (by omega)]
  have e2 : IntKind.i64.wrap (6 + (q : Int)) = ((6 + q : Nat) : Int) := by rw [IntWalk.i64_in _ (by omega)]; omega
  have hq7 : 6 + rn / 11 ≤ 8 := by omega
  have hq7i : ((6 + q : Nat) : Int) ≤ 8 := by omega
  have hq0i : (0 : Int) ≤ ((6 + q : Nat) : Int) := Int.natCast_nonneg _
  have HG2 := Lib.hid hg2
  have HP := Lib.hid (show w.heap.size < w1.heap.size from C1.out.lt)
  have hg := grown_trans (grown_alloc (.cells #[.int .i64 0, .int .i64 5, .int .i64 10, .int .i64 25, .int .i64 100, .int .i64 1440, .int .i64 (-1), .int .i64 1441] 3) (some w.heap.size)) hg2
  have hc := hc2
  have L2 := Lib.hid (own_kept L1.out hg (fun g e => by cases e; exact HZ.out))
  have C2 := Lib.hid hc
  have B2 := Lib.hid (below_of_grown B1.out hg)
  clear hc hg L1 C1 B1
  clear hc2 hg2 hq q1
  go_wp2_with fail
  refine (among_old (-1) 1441 w.heap.size _ (6 + rn / 11) 8 _ [0, 5, 10, 25, 100, 1440, -1, 1441] _ w1 w2 C2.out (by omega) HG2.out rfl HP.out rfl rfl (by omega) hq7 (by omega) BW.out).mono ?_
  rintro e w3 ⟨t, rfl, v0, v1, hc, hg⟩
  have L3 := Lib.hid (own_kept L2.out hg (fun g e => by cases e; exact HZ.out))
  have C3 := Lib.hid hc
  have B3 := Lib.hid (below_of_grown B2.out hg)
  clear hc hg L2 C2 B2
  go_wp2_with fail
  go_ret2
  exact ⟨_, k, zs, t, rfl, own_.own_base L3.out hle, hk, B3.out⟩
set_option maxRecDepth 100000 in
set_option maxHeartbeats 8000000 in
theorem clearedAt (A : Option Addr) (n c0 : Nat) (w : World) (hn : n ≤ 65536) (h : Bytes w w.heap.size A n) :
    Calls Try.prog 27 #[.slice A n c0] w (AtQ w) := by
  have HC0 := Lib.hid (new_cur c0 (by omega) h)
  have HZ := Lib.hid (show w.heap.size < (w.alloc (.cells #[.slice A n c0, .int .i64 0, .int .u64 0] 79)).heap.size by rw [World.size_alloc]; omega)
  have B0 := Lib.hid ((newS 79 #[.slice A n c0, .int .i64 0, .int .u64 0] w).1)
  clear h
  go_enter Try.func27, Try.ntmps27
  go_wp2_with fail
  generalize w.alloc (.cells #[.slice A n c0, .int .i64 0, .int .u64 0] 79) = W0 at *
  refine (clearances _ 0 W0 HC0.out (by omega)).mono ?_
  rintro e w1 ⟨v, k, zs, rfl, ho, hk, hc, hg⟩
  obtain ⟨A1, c1, rfl⟩ := own_sliceZ ho
  have hle := Nat.le_of_lt HZ.out
  have L1 := Lib.hid ho
  have C1 := Lib.hid hc
  have B1 := Lib.hid (below_of_grown B0.out hg)
  clear ho hc hg B0 HC0
  go_wp2_with fail
  refine (address18 _ _ w1 C1.out (by omega)).mono ?_
  rintro e w2 ⟨a, rfl, hc, hg⟩
  have L2 := Lib.hid (own_kept L1.out hg (fun g e => by cases e; exact HZ.out))
  have C2 := Lib.hid hc
  have B2 := Lib.hid (below_of_grown B1.out hg)
  clear hc hg L1 C1 B1
  go_wp2_with fail
  have BW := Lib.hid (show ∀ x ∈ ([0, 10, 15, 25, 60, 1439, -1, 1440] : List Int), -1 ≤ x ∧ x ≤ 1440 by decide)
  refine (pick w.heap.size _ 24 (w2.alloc (.cells #[.int .i64 0, .int .i64 10, .int .i64 15, .int .i64 25, .int .i64 60, .int .i64 1439, .int .i64 (-1), .int .i64 1440] 3)) (Cur.alloc C2.out (.cells #[.int .i64 0, .int .i64 10, .int .i64 15, .int .i64 25, .int .i64 60, .int .i64 1439, .int .i64 (-1), .int .i64 1440] 3)) (by omega) (by omega) (by omega)).mono ?_
  rintro e w3 ⟨r, rfl, r0, r1, hc2, hg2⟩
  obtain ⟨rn, rfl⟩ := Int.eq_ofNat_of_zero_le r0
  obtain ⟨q, hq⟩ : ∃ q, q = rn / 11 := ⟨_, rfl⟩
  have q1 : (rn : Int).tdiv 11 = (q : Int) := by rw [hq]; rfl
  have e1 : IntKind.i64.wrap ((rn : Int).tdiv 11) = (q : Int) := by rw [q1, IntWalk.i64_in _ (by omega)]
  have e2 : IntKind.i64.wrap (6 + (q : Int)) = ((6 + q : Nat) : Int) := by rw [IntWalk.i64_in _ (by omega)]; omega
  have hq7 : 6 + rn / 11 ≤ 8 := by omega
  have hq7i : ((6 + q : Nat) : Int) ≤ 8 := by omega
  have hq0i : (0 : Int) ≤ ((6 + q : Nat) : Int) := Int.natCast_nonneg _
  have HG2 := Lib.hid hg2
  have HP := Lib.hid (show w.heap.size < w2.heap.size from C2.out.lt)
  have hg := grown_trans (grown_alloc (.cells #[.int .i64 0, .int .i64 10, .int .i64 15, .int .i64 25, .int .i64 60, .int .i64 1439, .int .i64 (-1), .int .i64 1440] 3) (some w.heap.size)) hg2
  have hc := hc2
  have L3 := Lib.hid (own_kept L2.out hg (fun g e => by cases e; exact HZ.out))
  have C3 := Lib.hid hc
  have B3 := Lib.hid (below_of_grown B2.out hg)
  clear hc hg L2 C2 B2
  clear hc2 hg2 hq q1
  go_wp2_with fail
  refine (among_old (-1) 1440 w.heap.size _ (6 + rn / 11) 8 _ [0, 10, 15, 25, 60, 1439, -1, 1440] _ w2 w3 C3.out (by omega) HG2.out rfl HP.out rfl rfl (by omega) hq7 (by omega) BW.out).mono ?_
  rintro e w4 ⟨t, rfl, v0, v1, hc, hg⟩
  have L4 := Lib.hid (own_kept L3.out hg (fun g e => by cases e; exact HZ.out))
  have C4 := Lib.hid hc
  have B4 := Lib.hid (below_of_grown B3.out hg)
  clear hc hg L3 C3 B3
  go_wp2_with fail
  go_ret3
  exact ⟨_, k, zs, a, t, rfl, own_.own_base L4.out hle, hk, B4.out⟩
set_option maxRecDepth 100000 in
set_option maxHeartbeats 8000000 in
theorem freeLevels (A : Option Addr) (n c0 : Nat) (w : World) (hn : n ≤ 65536) (h : Bytes w w.heap.size A n) :
    Calls Try.prog 29 #[.slice A n c0] w (FreeQ w) := by
  have HC0 := Lib.hid (new_cur c0 (by omega) h)
  have HZ := Lib.hid (show w.heap.size < (w.alloc (.cells #[.slice A n c0, .int .i64 0, .int .u64 0] 79)).heap.size by rw [World.size_alloc]; omega)
  have B0 := Lib.hid ((newS 79 #[.slice A n c0, .int .i64 0, .int .u64 0] w).1)
  clear h
  go_enter Try.func29, Try.ntmps29
  go_wp2_with fail
  generalize w.alloc (.cells #[.slice A n c0, .int .i64 0, .int .u64 0] 79) = W0 at *
  refine (clearances _ 0 W0 HC0.out (by omega)).mono ?_
  rintro e w1 ⟨v, k, zs, rfl, ho, hk, hc, hg⟩
  obtain ⟨A1, c1, rfl⟩ := own_sliceZ ho
  have hle := Nat.le_of_lt HZ.out
  have L1 := Lib.hid ho
  have C1 := Lib.hid hc
  have B1 := Lib.hid (below_of_grown B0.out hg)
  clear ho hc hg B0 HC0
  go_wp2_with fail
  refine (cleared _ _ w1 C1.out (by omega)).mono ?_
  rintro e w2 ⟨x0, x1, x2, x3, x4, rfl, hc, hg⟩
  have L2 := Lib.hid (own_kept L1.out hg (fun g e => by cases e; exact HZ.out))
  have C2 := Lib.hid hc
  have B2 := Lib.hid (below_of_grown B1.out hg)
  clear hc hg L1 C1 B1
  have hbp : w.heap.size < w2.heap.size := C2.out.lt
  have BX := Lib.hid (Blk.new 26 #[.int .i64 x0, .int .i64 x1, .int .i64 x2, .int .i64 x3, .int .i64 x4] w2)
  have L3 := Lib.hid (L2.out.alloc (.cells #[.int .i64 x0, .int .i64 x1, .int .i64 x2, .int .i64 x3, .int .i64 x4] 26))
  have C3 := Lib.hid (Cur.alloc C2.out (.cells #[.int .i64 x0, .int .i64 x1, .int .i64 x2, .int .i64 x3, .int .i64 x4] 26))
  have B3 := Lib.hid (below_of_grown B2.out (grown_alloc (.cells #[.int .i64 x0, .int .i64 x1, .int .i64 x2, .int .i64 x3, .int .i64 x4] 26) (some w.heap.size)))
  clear L2 C2 B2
  go_upto_region 4 with fail
  generalize w2.alloc (.cells #[.int .i64 x0, .int .i64 x1, .int .i64 x2, .int .i64 x3, .int .i64 x4] 26) = W3 at *
  generalize w2.heap.size = b at *
  have HS0 := Lib.hid (show World.cell? W3.drew ⟨b, 3, none⟩ = some (.int .i64 x3) ∧ World.cell? W3.drew ⟨b, 4, none⟩ = some (.int .i64 x4) from ⟨BX.out.cell 3 _ rfl, BX.out.cell 4 _ rfl⟩)
  refine wp_region_tail (S := fun w' => World.cell? w' ⟨b, 3, none⟩ = some (.int .i64 x3) ∧ World.cell? w' ⟨b, 4, none⟩ = some (.int .i64 x4)) 10 (by kernel_rfl) HS0.out (fun hHeld => ?_)
  have C3 := Lib.hid (C3.out.keep (Below.refl _ _).drew)
  have L3 := Lib.hid (show W3.drew.ownsRow _ _ _ _ _ _ from L3.out)
  have B3 := Lib.hid B3.out.drew
  have BX := Lib.hid BX.out.drew
  generalize W3.drew = F0 at *
  try simp only [Act.put, List.getElem_toArray, List.getElem_cons_succ, List.getElem_cons_zero, List.setIfInBounds_toArray, List.set_cons_succ, List.set_cons_zero]
  refine wpAnyE_take (i := 0) (v := ?vt2_0) rfl (by decide +kernel) (fun _ _ _ h => h) (Or.inl ⟨by first | rfl | kernel_rfl, ?ht2_0⟩) (by assumption) ?rt2_0
  case ht2_0 =>
    intro wS hSw
    obtain ⟨h0, h1⟩ := hSw
    go_simp
    try with_reducible rfl
  try simp only [Act.put, List.getElem_toArray, List.getElem_cons_succ, List.getElem_cons_zero, List.setIfInBounds_toArray, List.set_cons_succ, List.set_cons_zero]
  refine wpAnyE_take (i := 1) (v := ?vt2_1) rfl (by decide +kernel) (fun _ _ _ h => h) (Or.inl ⟨by first | rfl | kernel_rfl, ?ht2_1⟩) (by assumption) ?rt2_1
  case ht2_1 =>
    intro wS hSw
    obtain ⟨h0, h1⟩ := hSw
    go_simp
    try with_reducible rfl
  try simp only [Act.put, List.getElem_toArray, List.getElem_cons_succ, List.getElem_cons_zero, List.setIfInBounds_toArray, List.set_cons_succ, List.set_cons_zero]
  refine wpAnyE_take (i := 3) (v := ?vt2_3) rfl (by decide +kernel) (fun _ _ _ h => h) (Or.inl ⟨by first | rfl | kernel_rfl, ?ht2_3⟩) (by assumption) ?rt2_3
  case ht2_3 =>
    intro wS hSw
    obtain ⟨h0, h1⟩ := hSw
    go_simp
    try with_reducible rfl
  try simp only [Act.put, List.getElem_toArray, List.getElem_cons_succ, List.getElem_cons_zero, List.setIfInBounds_toArray, List.set_cons_succ, List.set_cons_zero]
  refine wpAnyE_take (i := 4) (v := ?vt2_4) rfl (by decide +kernel) (fun _ _ _ h => h) (Or.inl ⟨by first | rfl | kernel_rfl, ?ht2_4⟩) (by assumption) ?rt2_4
  case ht2_4 =>
    intro wS hSw
    obtain ⟨h0, h1⟩ := hSw
    go_simp
    try with_reducible rfl
  try simp only [Act.put, List.getElem_toArray, List.getElem_cons_succ, List.getElem_cons_zero, List.setIfInBounds_toArray, List.set_cons_succ, List.set_cons_zero]
  refine wpAnyE_take (i := 5) (v := ?vt2_5) rfl (by decide +kernel) (fun _ _ _ h => h) (Or.inl ⟨by first | rfl | kernel_rfl, ?ht2_5⟩) (by assumption) ?rt2_5
  case ht2_5 =>
    intro wS hSw
    obtain ⟨h0, h1⟩ := hSw
    go_simp
    try with_reducible rfl
  try simp only [Act.put, List.getElem_toArray, List.getElem_cons_succ, List.getElem_cons_zero, List.setIfInBounds_toArray, List.set_cons_succ, List.set_cons_zero]
  refine wpAnyE_take (i := 6) (v := ?vt2_6) rfl (by decide +kernel) (fun _ _ _ h => h) (Or.inl ⟨by first | rfl | kernel_rfl, ?ht2_6⟩) (by assumption) ?rt2_6
  case ht2_6 =>
    intro wS hSw
    obtain ⟨h0, h1⟩ := hSw
    go_simp
    try with_reducible rfl
  try simp only [Act.put, List.getElem_toArray, List.getElem_cons_succ, List.getElem_cons_zero, List.setIfInBounds_toArray, List.set_cons_succ, List.set_cons_zero]
  refine wpAnyE_ready (rs := [2]) (by kernel_rfl) (by simp) ?_
  refine AllReadyE.cons (i := 2) rfl (by decide) (fun K hK => ?_) AllReadyE.nil
  go_simp
  refine (address18 _ _ F0 C3.out (by omega)).mono ?_
  rintro e w4 ⟨a, rfl, hc, hg⟩
  have BX4 := Lib.hid (BX.out.grown hg (Nat.ne_of_gt hbp))
  have L4 := Lib.hid (own_kept L3.out hg (fun g e => by cases e; exact HZ.out))
  have C4 := Lib.hid hc
  have B4 := Lib.hid (below_of_grown B3.out hg)
  clear hc hg L3 C3 B3
  go_simp
  have HS1 := Lib.hid (show World.cell? w4 ⟨b, 3, none⟩ = some (.int .i64 x3) ∧ World.cell? w4 ⟨b, 4, none⟩ = some (.int .i64 x4) from ⟨BX4.out.cell 3 _ rfl, BX4.out.cell 4 _ rfl⟩)
  refine hK.out _ _ HS1.out (fun hHeld => ?_)
  clear hK K
  try simp only [Act.put, List.getElem_toArray, List.getElem_cons_succ, List.getElem_cons_zero, List.setIfInBounds_toArray, List.set_cons_succ, List.set_cons_zero]
  refine wpAnyE_take (i := 7) (v := ?vt2_7) rfl (by decide +kernel) (fun _ _ _ h => h) (Or.inl ⟨by first | rfl | kernel_rfl, ?ht2_7⟩) (by assumption) ?rt2_7
  case ht2_7 =>
    intro wS hSw
    obtain ⟨h0, h1⟩ := hSw
    go_simp
    try with_reducible rfl
  try simp only [Act.put, List.getElem_toArray, List.getElem_cons_succ, List.getElem_cons_zero, List.setIfInBounds_toArray, List.set_cons_succ, List.set_cons_zero]
  refine wpAnyE_take (i := 8) (v := ?vt2_8) rfl (by decide +kernel) (fun _ _ _ h => h) (Or.inl ⟨by first | rfl | kernel_rfl, ?ht2_8⟩) (by assumption) ?rt2_8
  case ht2_8 =>
    intro wS hSw
    obtain ⟨h0, h1⟩ := hSw
    go_simp
    try with_reducible rfl
  try simp only [Act.put, List.getElem_toArray, List.getElem_cons_succ, List.getElem_cons_zero, List.setIfInBounds_toArray, List.set_cons_succ, List.set_cons_zero]
  refine wpAnyE_take (i := 9) (v := ?vt2_9) rfl (by decide +kernel) (fun _ _ _ h => h) (Or.inl ⟨by first | rfl | kernel_rfl, ?ht2_9⟩) (by assumption) ?rt2_9
  case ht2_9 =>
    intro wS hSw
    obtain ⟨h0, h1⟩ := hSw
    go_simp
    try with_reducible rfl
  try simp only [Act.put, List.getElem_toArray, List.getElem_cons_succ, List.getElem_cons_zero, List.setIfInBounds_toArray, List.set_cons_succ, List.set_cons_zero]
  refine wpAnyE_ready (rs := [10]) (by kernel_rfl) (by simp) ?_
  refine AllReadyE.last (i := 10) rfl rfl (fun K hK => ?_)
  go_simp
  refine hK.out _ _ ?_
  clear hK K
  try simp only [Act.put, List.getElem_toArray, List.getElem_cons_succ, List.getElem_cons_zero, List.setIfInBounds_toArray, List.set_cons_succ, List.set_cons_zero]
  refine wpAnyE_done (by kernel_rfl) ?_ _
  try simp only [List.getElem_toArray, List.getElem_cons_succ, List.getElem_cons_zero, List.setIfInBounds_toArray, List.set_cons_succ, List.set_cons_zero]
  have HR := Lib.hid (show FreeQ w (.returned (.tuple #[.slice A1 k c1, .int .i64 a, .int .i64 x3, .int .i64 x4])) w4 from ⟨_, k, zs, a, x3, x4, rfl, own_.own_base L4.out hle, hk, B4.out⟩)
  go_wp2_with fail
  refine bodyPost_ret (v := .tuple #[.slice A1 k c1, .int .i64 a, .int .i64 x3, .int .i64 x4]) ?_ rfl HR.out
  rw [results_t4 rfl]
  rfl
end Go.Proofs.Ytglonedhoenkpaa.drawu18
