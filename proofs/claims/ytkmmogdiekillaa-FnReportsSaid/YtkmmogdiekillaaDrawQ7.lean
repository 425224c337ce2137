/- spec's draws for chapter 7's laws: DrawReportOf, DrawIsValidReport, DrawPackReport, DrawUnpackReport, DrawDecodeNear. -/
import Derived.Test.YtkmmogdiekillaaDrawP7
namespace Go.Proofs.Ytkmmogdiekillaa.drawq7
open Go.RowKit Go.Proofs.Ytkmmogdiekillaa.cur Go.Proofs.Ytkmmogdiekillaa.atc Go.Proofs.Ytkmmogdiekillaa.ats Go.Proofs.Ytkmmogdiekillaa.pos Go.Proofs.Ytkmmogdiekillaa.poss Go.Proofs.Ytkmmogdiekillaa.post Go.Proofs.Ytkmmogdiekillaa.drawp7

theorem bytes_al {w : World} {A : Option Addr} {n : Nat} (o : Obj) (h : Bytes w w.heap.size A n) : Bytes (w.alloc o) (w.alloc o).heap.size A n := by
  intro h0
  obtain ⟨b, o', e, hb, hc⟩ := h h0
  exact ⟨b, o', e, by rw [World.size_alloc]; omega, fun j hj => by
    obtain ⟨x, hx⟩ := hc j hj
    exact ⟨x, (World.cell?_alloc_lt w _ ⟨b, o' + j, none⟩ hb).trans hx.1, hx.2⟩⟩
theorem at_grown {T : TypeId} {cs : Array Value} {w W W' : World} {b p : Nat} (h : AtS T cs w W b) (hg : W.grownBy W' (some p)) (hne : b ≠ p) (hp : w.heap.size ≤ p) : AtS T cs w W' b :=
  ⟨h.1.grown hg h.1.size (fun g e => by injection e with e; omega), h.2.1, Nat.lt_of_lt_of_le h.2.2.1 hg.size, (hg.block b h.2.2.1 (fun e => hne (by injection e))).trans h.2.2.2⟩
theorem results_cells2 {fn : Func} {p q : Tmp} {ty ty' : TypeId} (h : fn.results = #[.cell p ty, .cell q ty']) (tmps : Array Value) (P : Program) (w : World) :
    (results fn tmps).run P w =
      ((asAddr (tmps.getD p undef)).run P w).andThen fun a w₁ => ((loadVar ty a).run P w₁).andThen fun v w₂ => ((asAddr (tmps.getD q undef)).run P w₂).andThen fun b w₃ => ((loadVar ty' b).run P w₃).andThen fun u w₄ => .ok (.tuple #[v, u]) w₄ := by
  simp only [results, h]
  simp [Sem.run_bind, Result.andThen]

/-- What the draws return. -/
def PlaceBool (w : World) (e : Ending) (w' : World) : Prop := ∃ x y o, e = .returned (.tuple #[.agg #[.int .i64 x, .int .i64 y], .bool o]) ∧ Below w.heap.size w w'
def Report1 (w : World) (e : Ending) (w' : World) : Prop := ∃ o a b, e = .returned (.agg #[.bool o, .int .i64 a, .int .i64 b]) ∧ Below w.heap.size w w'
def Int1 (w : World) (e : Ending) (w' : World) : Prop := ∃ x, e = .returned (.int .i64 x) ∧ Below w.heap.size w w'
def ReportPlace (w : World) (e : Ending) (w' : World) : Prop := ∃ o a b x y, e = .returned (.tuple #[.agg #[.bool o, .int .i64 a, .int .i64 b], .agg #[.int .i64 x, .int .i64 y]]) ∧ Below w.heap.size w w'

set_option maxRecDepth 100000 in
set_option maxHeartbeats 2000000 in
theorem reportOf (A : Option Addr) (n c : Nat) (w : World) (hn : n ≤ 65536) (h : Bytes w w.heap.size A n) :
    Calls Try.prog 15 #[.slice A n c] w (PlaceBool w) := by
  have B0 := Lib.hid ((newS 25 #[.int .i64 0, .int .i64 0] w).alloc (.cells #[.slice A n c, .int .i64 0, .int .u64 0] 73))
  have hc := new_cur c (by omega) (bytes_al (.cells #[.int .i64 0, .int .i64 0] 25) h)
  rw [World.size_alloc] at hc
  have HC := Lib.hid hc
  clear h hc
  go_enter Try.func15, Try.ntmps15
  go_wp2_with fail
  generalize (w.alloc (.cells #[.int .i64 0, .int .i64 0] 25)).alloc (.cells #[.slice A n c, .int .i64 0, .int .u64 0] 73) = W at *
  refine (anyPlace _ 0 W HC.out (by omega)).mono ?_
  rintro e w1 ⟨x, y, rfl, -, hc1, hg1⟩
  have B1 := Lib.hid (at_grown B0.out hg1 (by omega) (by omega))
  have HC1 := Lib.hid hc1
  clear hc1 hg1 B0 HC
  go_wp2_with fail
  refine (one _ _ 2 w1 HC1.out (by omega) (by omega) (by omega)).mono ?_
  rintro e w2 ⟨o, rfl, hc2, hg2⟩
  have B2 := Lib.hid (at_grown B1.out hg2 (by omega) (by omega))
  have c_0 : w2.cell? ⟨w.heap.size, 0, none⟩ = some (.int .i64 0) := B2.out.cell 0
  have cf_0 : w2.frozen? ⟨w.heap.size, 0, none⟩ = false := B2.out.frozen 0
  have c_1 : w2.cell? ⟨w.heap.size, 1, none⟩ = some (.int .i64 0) := B2.out.cell 1
  have cf_1 : w2.frozen? ⟨w.heap.size, 1, none⟩ = false := B2.out.frozen 1
  have HE := Lib.hid ((B2.out.set 0 (.int .i64 x)).set 1 (.int .i64 y))
  clear hc2 hg2 B1 B2 HC1
  go_wp2_with fail
  have hl := HE.out.load Try.underlying25 rfl (by kernel_rfl)
  refine bodyPost_ret (v := .tuple #[.agg #[.int .i64 x, .int .i64 y], .bool o]) ?_ rfl ⟨_, _, _, rfl, HE.out.1⟩
  rw [results_cell_tmp rfl]
  simp [asAddr, Result.andThen, hl]

set_option maxRecDepth 100000 in
set_option maxHeartbeats 2000000 in
theorem isValidReport (A : Option Addr) (n c : Nat) (w : World) (hn : n ≤ 65536) (h : Bytes w w.heap.size A n) :
    Calls Try.prog 72 #[.slice A n c] w (Report1 w) := by
  have B0 := Lib.hid ((newS 29 #[.bool false, .int .i64 0, .int .i64 0] w).alloc (.cells #[.slice A n c, .int .i64 0, .int .u64 0] 73))
  have hc := new_cur c (by omega) (bytes_al (.cells #[.bool false, .int .i64 0, .int .i64 0] 29) h)
  rw [World.size_alloc] at hc
  have HC := Lib.hid hc
  clear h hc
  go_enter Try.func72, Try.ntmps72
  go_wp2_with fail
  generalize (w.alloc (.cells #[.bool false, .int .i64 0, .int .i64 0] 29)).alloc (.cells #[.slice A n c, .int .i64 0, .int .u64 0] 73) = W at *
  refine (report _ 0 W HC.out (by omega)).mono ?_
  rintro e w1 ⟨o, a, b, rfl, hc1, hg1⟩
  have B1 := Lib.hid (at_grown B0.out hg1 (by omega) (by omega))
  have c_0 : w1.cell? ⟨w.heap.size, 0, none⟩ = some (.bool false) := B1.out.cell 0
  have cf_0 : w1.frozen? ⟨w.heap.size, 0, none⟩ = false := B1.out.frozen 0
  have c_1 : w1.cell? ⟨w.heap.size, 1, none⟩ = some (.int .i64 0) := B1.out.cell 1
  have cf_1 : w1.frozen? ⟨w.heap.size, 1, none⟩ = false := B1.out.frozen 1
  have c_2 : w1.cell? ⟨w.heap.size, 2, none⟩ = some (.int .i64 0) := B1.out.cell 2
  have cf_2 : w1.frozen? ⟨w.heap.size, 2, none⟩ = false := B1.out.frozen 2
  have HE := Lib.hid (((B1.out.set 0 (.bool o)).set 1 (.int .i64 a)).set 2 (.int .i64 b))
  clear hc1 hg1 B0 B1 HC
  go_wp2_with fail
  have hl := HE.out.load Try.underlying29 rfl (by kernel_rfl)
  refine bodyPost_ret (v := .agg #[.bool o, .int .i64 a, .int .i64 b]) ?_ rfl ⟨_, _, _, rfl, HE.out.1⟩
  rw [results_cell1 rfl]
  simp [asAddr, Result.andThen, hl]

set_option maxRecDepth 100000 in
set_option maxHeartbeats 2000000 in
theorem packReport (A : Option Addr) (n c : Nat) (w : World) (hn : n ≤ 65536) (h : Bytes w w.heap.size A n) :
    Calls Try.prog 28 #[.slice A n c] w (Report1 w) := by
  have B0 := Lib.hid (newS 29 #[.bool false, .int .i64 0, .int .i64 0] w)
  have HX := Lib.hid (isValidReport A n c _ hn (bytes_al (.cells #[.bool false, .int .i64 0, .int .i64 0] 29) h))
  clear h
  go_enter Try.func28, Try.ntmps28
  go_wp2_with fail
  generalize w.alloc (.cells #[.bool false, .int .i64 0, .int .i64 0] 29) = W at *
  refine HX.out.mono ?_
  rintro e w1 ⟨o, a, b, rfl, hb1⟩
  have B1 := Lib.hid (B0.out.old hb1)
  have c_0 : w1.cell? ⟨w.heap.size, 0, none⟩ = some (.bool false) := B1.out.cell 0
  have cf_0 : w1.frozen? ⟨w.heap.size, 0, none⟩ = false := B1.out.frozen 0
  have c_1 : w1.cell? ⟨w.heap.size, 1, none⟩ = some (.int .i64 0) := B1.out.cell 1
  have cf_1 : w1.frozen? ⟨w.heap.size, 1, none⟩ = false := B1.out.frozen 1
  have c_2 : w1.cell? ⟨w.heap.size, 2, none⟩ = some (.int .i64 0) := B1.out.cell 2
  have cf_2 : w1.frozen? ⟨w.heap.size, 2, none⟩ = false := B1.out.frozen 2
  have HE := Lib.hid (((B1.out.set 0 (.bool o)).set 1 (.int .i64 a)).set 2 (.int .i64 b))
  clear hb1 B0 B1 HX
  go_wp2_with fail
  have hl := HE.out.load Try.underlying29 rfl (by kernel_rfl)
  refine bodyPost_ret (v := .agg #[.bool o, .int .i64 a, .int .i64 b]) ?_ rfl ⟨_, _, _, rfl, HE.out.1⟩
  rw [results_cell1 rfl]
  simp [asAddr, Result.andThen, hl]

set_option maxRecDepth 100000 in
set_option maxHeartbeats 2000000 in
theorem unpackReport (A : Option Addr) (n c : Nat) (w : World) (hn : n ≤ 65536) (h : Bytes w w.heap.size A n) :
    Calls Try.prog 33 #[.slice A n c] w (Int1 w) := by
  have hc := Lib.hid (new_cur c (by omega) h)
  have hb0 : Below w.heap.size w (w.alloc (.cells #[.slice A n c, .int .i64 0, .int .u64 0] 73)) := (Below.refl _ _).alloc (Nat.le_refl _) _
  clear h
  go_enter Try.func33, Try.ntmps33
  go_wp2_with fail
  refine (place _ 0 _ hc.out (by omega)).mono ?_
  rintro e w1 ⟨x, y, rfl, hv, hc1, hg1⟩
  have hb1 := below_of_grown hb0 hg1
  have HC1 := Lib.hid hc1
  have HV := Lib.hid hv
  clear hv hc1 hg1 hc hb0
  go_wp2_with fail
  refine (one _ _ 2 w1 HC1.out (by omega) (by omega) (by omega)).mono ?_
  rintro e w2 ⟨o, rfl, hc2, hg2⟩
  have hb2 := below_of_grown hb1 hg2
  have HC2 := Lib.hid hc2
  clear hc2 hg2 HC1 hb1
  have hs := sz_pos o
  have ma : 0 ≤ x % sz o ∧ x % sz o < 200 := ⟨Int.emod_nonneg _ (by omega), by have := Int.emod_lt_of_pos x (show 0 < sz o by omega); omega⟩
  have mb : 0 ≤ y % sz o ∧ y % sz o < 200 := ⟨Int.emod_nonneg _ (by omega), by have := Int.emod_lt_of_pos y (show 0 < sz o by omega); omega⟩
  have O7 := Lib.hid (of7 x y o w2 HV.out.1 HV.out.2)
  have K7 := Lib.hid (fun w => pack7 o (x % sz o) (y % sz o) ma mb w)
  clear hs ma mb HV
  generalize x % sz o = a at *
  generalize y % sz o = b at *
  generalize pk o a b = k at *
  go_wp2_with fail
  refine O7.out.mono ?_
  rintro e w3 ⟨rfl, hb3⟩
  have HC3 := Lib.hid (Cur.below HC2.out hb3)
  have hb3 := hb2.trans (hb3.mono hb2.size)
  clear HC2 O7 hb2
  go_wp2_with fail
  refine (K7.out _).mono ?_
  rintro e w4 ⟨rfl, hb4⟩
  have HC4 := Lib.hid (Cur.below HC3.out hb4)
  have hb4 := hb3.trans (hb4.mono hb3.size)
  clear HC3 K7 hb3
  go_wp2_with fail
  refine (one _ _ 4 w4 HC4.out (by omega) (by omega) (by omega)).mono ?_
  rintro e w5 ⟨i, rfl, hc5, hg5⟩
  have hb5 := below_of_grown hb4 hg5
  have HC5 := Lib.hid hc5
  clear hc5 hg5 HC4 hb4
  cases i
  · go_wp2_with fail
    go_ret
    exact ⟨_, rfl, hb5⟩
  · go_wp2_with fail
    refine (among_new (-1) 32768 _ _ 9 [-1, 0, 100, 12799, 16383, 32767, 32768, 29026, 29056] _ w5 HC5.out (by omega) (by omega) (by omega) rfl rfl (by decide)).mono ?_
    rintro e w6 ⟨z, rfl, z0, z1, hc6, hg6⟩
    have hb6 := below_of_grown hb5 hg6
    clear hc6 hg6 HC5 hb5
    go_wp2_with fail
    go_ret
    exact ⟨_, rfl, hb6⟩

set_option maxRecDepth 100000 in
set_option maxHeartbeats 2000000 in
theorem decodeNear (A : Option Addr) (n c : Nat) (w : World) (hn : n ≤ 65536) (h : Bytes w w.heap.size A n) :
    Calls Try.prog 35 #[.slice A n c] w (ReportPlace w) := by
  have B0 := Lib.hid (((newS 29 #[.bool false, .int .i64 0, .int .i64 0] w).alloc (.cells #[.int .i64 0, .int .i64 0] 25)).alloc (.cells #[.slice A n c, .int .i64 0, .int .u64 0] 73))
  have C0 := Lib.hid (((newS 29 #[.bool false, .int .i64 0, .int .i64 0] w).next 25 #[.int .i64 0, .int .i64 0]).alloc (.cells #[.slice A n c, .int .i64 0, .int .u64 0] 73))
  rw [World.size_alloc] at C0
  have hc := new_cur c (by omega) (bytes_al (.cells #[.int .i64 0, .int .i64 0] 25) (bytes_al (.cells #[.bool false, .int .i64 0, .int .i64 0] 29) h))
  rw [World.size_alloc, World.size_alloc] at hc
  have HC := Lib.hid hc
  clear h hc
  go_enter Try.func35, Try.ntmps35
  go_wp2_with fail
  generalize ((w.alloc (.cells #[.bool false, .int .i64 0, .int .i64 0] 29)).alloc (.cells #[.int .i64 0, .int .i64 0] 25)).alloc (.cells #[.slice A n c, .int .i64 0, .int .u64 0] 73) = W at *
  refine (report _ 0 W HC.out (by omega)).mono ?_
  rintro e w1 ⟨o, a, b, rfl, hc1, hg1⟩
  have B1 := Lib.hid (at_grown B0.out hg1 (by omega) (by omega))
  have C1 := Lib.hid (at_grown C0.out hg1 (by omega) (by omega))
  have HC1 := Lib.hid hc1
  clear hc1 hg1 B0 C0 HC
  go_wp2_with fail
  refine (anyPlace _ _ w1 HC1.out (by omega)).mono ?_
  rintro e w2 ⟨x, y, rfl, -, hc2, hg2⟩
  have B2 := Lib.hid (at_grown B1.out hg2 (by omega) (by omega))
  have C2 := Lib.hid (at_grown C1.out hg2 (by omega) (by omega))
  clear hc2 hg2 B1 C1 HC1
  have c_0 : w2.cell? ⟨w.heap.size, 0, none⟩ = some (.bool false) := B2.out.cell 0
  have cf_0 : w2.frozen? ⟨w.heap.size, 0, none⟩ = false := B2.out.frozen 0
  have c_1 : w2.cell? ⟨w.heap.size, 1, none⟩ = some (.int .i64 0) := B2.out.cell 1
  have cf_1 : w2.frozen? ⟨w.heap.size, 1, none⟩ = false := B2.out.frozen 1
  have c_2 : w2.cell? ⟨w.heap.size, 2, none⟩ = some (.int .i64 0) := B2.out.cell 2
  have cf_2 : w2.frozen? ⟨w.heap.size, 2, none⟩ = false := B2.out.frozen 2
  have B3 := Lib.hid (((B2.out.set 0 (.bool o)).set 1 (.int .i64 a)).set 2 (.int .i64 b))
  have C3 := Lib.hid (((C2.out.other (b' := w.heap.size) (Nat.le_refl _) (by omega) 0 (.bool o)).other (b' := w.heap.size) (Nat.le_refl _) (by omega) 1 (.int .i64 a)).other (b' := w.heap.size) (Nat.le_refl _) (by omega) 2 (.int .i64 b))
  have d_0 : (((w2.setCell ⟨w.heap.size, 0, none⟩ (.bool o)).setCell ⟨w.heap.size, 1, none⟩ (.int .i64 a)).setCell ⟨w.heap.size, 2, none⟩ (.int .i64 b)).cell? ⟨w.heap.size + 1, 0, none⟩ = some (.int .i64 0) := C3.out.cell 0
  have df_0 : (((w2.setCell ⟨w.heap.size, 0, none⟩ (.bool o)).setCell ⟨w.heap.size, 1, none⟩ (.int .i64 a)).setCell ⟨w.heap.size, 2, none⟩ (.int .i64 b)).frozen? ⟨w.heap.size + 1, 0, none⟩ = false := C3.out.frozen 0
  have d_1 : (((w2.setCell ⟨w.heap.size, 0, none⟩ (.bool o)).setCell ⟨w.heap.size, 1, none⟩ (.int .i64 a)).setCell ⟨w.heap.size, 2, none⟩ (.int .i64 b)).cell? ⟨w.heap.size + 1, 1, none⟩ = some (.int .i64 0) := C3.out.cell 1
  have df_1 : (((w2.setCell ⟨w.heap.size, 0, none⟩ (.bool o)).setCell ⟨w.heap.size, 1, none⟩ (.int .i64 a)).setCell ⟨w.heap.size, 2, none⟩ (.int .i64 b)).frozen? ⟨w.heap.size + 1, 1, none⟩ = false := C3.out.frozen 1
  have B4 := Lib.hid ((B3.out.other (b' := w.heap.size + 1) (by omega) (by omega) 0 (.int .i64 x)).other (b' := w.heap.size + 1) (by omega) (by omega) 1 (.int .i64 y))
  have C4 := Lib.hid ((C3.out.set 0 (.int .i64 x)).set 1 (.int .i64 y))
  clear B2 C2 B3 C3
  go_wp2_with fail
  have hl := B4.out.load Try.underlying29 rfl (by kernel_rfl)
  have hl2 := C4.out.load Try.underlying25 rfl (by kernel_rfl)
  refine bodyPost_ret (v := .tuple #[.agg #[.bool o, .int .i64 a, .int .i64 b], .agg #[.int .i64 x, .int .i64 y]]) ?_ rfl ⟨_, _, _, _, _, rfl, B4.out.1⟩
  rw [results_cells2 rfl]
  simp [asAddr, Result.andThen, hl, hl2]
end Go.Proofs.Ytkmmogdiekillaa.drawq7
