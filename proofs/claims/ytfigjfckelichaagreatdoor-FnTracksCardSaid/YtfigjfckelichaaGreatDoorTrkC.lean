/- impl's hitAt and missOf. -/
import Derived.Test.YtfigjfckelichaaGreatDoorTrkW
namespace Go.Proofs.YtfigjfckelichaaGreatDoor.trkc
open Go.RowKit Go.Proofs.YtfigjfckelichaaGreatDoor.ints Go.Proofs.YtfigjfckelichaaGreatDoor.lst Go.Proofs.YtfigjfckelichaaGreatDoor.in_ Go.Proofs.YtfigjfckelichaaGreatDoor.ats Go.Proofs.YtfigjfckelichaaGreatDoor.pos Go.Proofs.YtfigjfckelichaaGreatDoor.trk Go.Proofs.YtfigjfckelichaaGreatDoor.trke Go.Proofs.YtfigjfckelichaaGreatDoor.trki Go.Proofs.YtfigjfckelichaaGreatDoor.trkv Go.Proofs.YtfigjfckelichaaGreatDoor.trkw

set_option maxRecDepth 100000 in
set_option maxHeartbeats 2000000 in
theorem hitAt_yes (i s x y h l u v : Int) (w : World) (h0 : -1000000 ≤ h) (h1 : h ≤ 1000000) (hx : Ex w) (hok : tkB i (sw (h + 1) 0) u v (h + 1) 0 = true) :
    Calls Tryz.prog 46 #[.agg #[.int .i64 i, .int .i64 s, .int .i64 x, .int .i64 y, .int .i64 h, .int .i64 l], .agg #[.int .i64 u, .int .i64 v]] w fun e w' => e = .returned (.tuple #[.agg #[.int .i64 i, .int .i64 (sw (h + 1) 0), .int .i64 u, .int .i64 v, .int .i64 (h + 1), .int .i64 0], .nilIface]) ∧ Below w.heap.size w w' := by
  have T0 := Lib.hid (((newS 25 #[.int .i64 i, .int .i64 s, .int .i64 x, .int .i64 y, .int .i64 h, .int .i64 l] w).alloc (.cells #[.int .i64 u, .int .i64 v] 35)).alloc (.cells #[.int .i64 0, .int .i64 0, .int .i64 0, .int .i64 0, .int .i64 0, .int .i64 0] 25))
  have P0 := Lib.hid (((newS 25 #[.int .i64 i, .int .i64 s, .int .i64 x, .int .i64 y, .int .i64 h, .int .i64 l] w).next 35 #[.int .i64 u, .int .i64 v]).alloc (.cells #[.int .i64 0, .int .i64 0, .int .i64 0, .int .i64 0, .int .i64 0, .int .i64 0] 25))
  rw [World.size_alloc] at P0
  have R0 := Lib.hid (((newS 25 #[.int .i64 i, .int .i64 s, .int .i64 x, .int .i64 y, .int .i64 h, .int .i64 l] w).alloc (.cells #[.int .i64 u, .int .i64 v] 35)).next 25 #[.int .i64 0, .int .i64 0, .int .i64 0, .int .i64 0, .int .i64 0, .int .i64 0])
  rw [World.size_alloc, World.size_alloc] at R0
  have SW := Lib.hid (fun w => stateWith (h + 1) 0 w)
  have VT := Lib.hid (fun w => isValidTrack i (sw (h + 1) 0) u v (h + 1) 0 w)
  obtain ⟨ae, hae⟩ := hx
  have hgl := World.block_lt_of_cell? _ _ hae
  rw [hok] at VT
  clear hok
  have e1 : IntKind.i64.wrap (h + 1) = h + 1 := IntWalk.i64_in _ (by omega)
  generalize sw (h + 1) 0 = t at *
  go_enter Tryz.func46, Tryz.ntmps46
  go_upto_region 1 with fail
  generalize ((w.alloc (.cells #[.int .i64 i, .int .i64 s, .int .i64 x, .int .i64 y, .int .i64 h, .int .i64 l] 25)).alloc (.cells #[.int .i64 u, .int .i64 v] 35)).alloc (.cells #[.int .i64 0, .int .i64 0, .int .i64 0, .int .i64 0, .int .i64 0, .int .i64 0] 25) = W0 at *
  have T1 := Lib.hid T0.out.drew
  have P1 := Lib.hid P0.out.drew
  have R1 := Lib.hid R0.out.drew
  have cT0 : W0.drew.cell? ⟨w.heap.size, 0, none⟩ = some (.int .i64 i) := T1.out.cell 0
  have cTf0 := T1.out.frozen 0
  have cT1 : W0.drew.cell? ⟨w.heap.size, 1, none⟩ = some (.int .i64 s) := T1.out.cell 1
  have cTf1 := T1.out.frozen 1
  have cT2 : W0.drew.cell? ⟨w.heap.size, 2, none⟩ = some (.int .i64 x) := T1.out.cell 2
  have cTf2 := T1.out.frozen 2
  have cT3 : W0.drew.cell? ⟨w.heap.size, 3, none⟩ = some (.int .i64 y) := T1.out.cell 3
  have cTf3 := T1.out.frozen 3
  have cT4 : W0.drew.cell? ⟨w.heap.size, 4, none⟩ = some (.int .i64 h) := T1.out.cell 4
  have cTf4 := T1.out.frozen 4
  have cT5 : W0.drew.cell? ⟨w.heap.size, 5, none⟩ = some (.int .i64 l) := T1.out.cell 5
  have cTf5 := T1.out.frozen 5
  have cP0 : W0.drew.cell? ⟨w.heap.size + 1, 0, none⟩ = some (.int .i64 u) := P1.out.cell 0
  have cPf0 := P1.out.frozen 0
  have cP1 : W0.drew.cell? ⟨w.heap.size + 1, 1, none⟩ = some (.int .i64 v) := P1.out.cell 1
  have cPf1 := P1.out.frozen 1
  have cy3 : (W0.setCell ⟨w.heap.size, 2, none⟩ (.int .i64 u)).drew.cell? ⟨w.heap.size, 3, none⟩ = some (.int .i64 y) := (T1.out.set 2 (.int .i64 u)).cell 3
  have cyf3 : (W0.setCell ⟨w.heap.size, 2, none⟩ (.int .i64 u)).drew.frozen? ⟨w.heap.size, 3, none⟩ = false := (T1.out.set 2 (.int .i64 u)).frozen 3
  have cyp : (W0.setCell ⟨w.heap.size, 2, none⟩ (.int .i64 u)).drew.cell? ⟨w.heap.size + 1, 1, none⟩ = some (.int .i64 v) := (P1.out.other (b' := w.heap.size) (by omega) (by omega) 2 (.int .i64 u)).cell 1
  go_region
  clear cy3 cyf3 cyp
  clear cT0 cTf0 cT1 cTf1 cT2 cTf2 cT3 cTf3 cT4 cTf4 cT5 cTf5
  clear cP0 cPf0 cP1 cPf1
  have T2 := Lib.hid (show AtS 25 #[.int .i64 i, .int .i64 s, .int .i64 u, .int .i64 v, .int .i64 h, .int .i64 l] w ((W0.setCell ⟨w.heap.size, 2, none⟩ (.int .i64 u)).setCell ⟨w.heap.size, 3, none⟩ (.int .i64 v)).drew w.heap.size from ((T0.out.set 2 (.int .i64 u)).set 3 (.int .i64 v)).drew)
  have P2 := Lib.hid (show AtS 35 #[.int .i64 u, .int .i64 v] w ((W0.setCell ⟨w.heap.size, 2, none⟩ (.int .i64 u)).setCell ⟨w.heap.size, 3, none⟩ (.int .i64 v)).drew (w.heap.size + 1) from ((P0.out.other (b' := w.heap.size) (by omega) (by omega) 2 (.int .i64 u)).other (b' := w.heap.size) (by omega) (by omega) 3 (.int .i64 v)).drew)
  have R2 := Lib.hid (show AtS 25 #[.int .i64 0, .int .i64 0, .int .i64 0, .int .i64 0, .int .i64 0, .int .i64 0] w ((W0.setCell ⟨w.heap.size, 2, none⟩ (.int .i64 u)).setCell ⟨w.heap.size, 3, none⟩ (.int .i64 v)).drew (w.heap.size + 1 + 1) from ((R0.out.other (b' := w.heap.size) (by omega) (by omega) 2 (.int .i64 u)).other (b' := w.heap.size) (by omega) (by omega) 3 (.int .i64 v)).drew)
  clear T0 P0 R0 T1 P1 R1
  generalize ((W0.setCell ⟨w.heap.size, 2, none⟩ (.int .i64 u)).setCell ⟨w.heap.size, 3, none⟩ (.int .i64 v)).drew = W2 at *
  have cT0 : W2.cell? ⟨w.heap.size, 0, none⟩ = some (.int .i64 i) := T2.out.cell 0
  have cTf0 := T2.out.frozen 0
  have cT1 : W2.cell? ⟨w.heap.size, 1, none⟩ = some (.int .i64 s) := T2.out.cell 1
  have cTf1 := T2.out.frozen 1
  have cT2 : W2.cell? ⟨w.heap.size, 2, none⟩ = some (.int .i64 u) := T2.out.cell 2
  have cTf2 := T2.out.frozen 2
  have cT3 : W2.cell? ⟨w.heap.size, 3, none⟩ = some (.int .i64 v) := T2.out.cell 3
  have cTf3 := T2.out.frozen 3
  have cT4 : W2.cell? ⟨w.heap.size, 4, none⟩ = some (.int .i64 h) := T2.out.cell 4
  have cTf4 := T2.out.frozen 4
  have cT5 : W2.cell? ⟨w.heap.size, 5, none⟩ = some (.int .i64 l) := T2.out.cell 5
  have cTf5 := T2.out.frozen 5
  go_upto_region 3 with fail
  clear cT0 cTf0 cT1 cTf1 cT2 cTf2 cT3 cTf3 cT4 cTf4 cT5 cTf5
  have T3 := Lib.hid (show AtS 25 #[.int .i64 i, .int .i64 s, .int .i64 u, .int .i64 v, .int .i64 (h + 1), .int .i64 l] w (W2.setCell ⟨w.heap.size, 4, none⟩ (.int .i64 (h + 1))) (w.heap.size) from T2.out.set 4 (.int .i64 (h + 1)))
  have P3 := Lib.hid (P2.out.other (b' := w.heap.size) (by omega) (by omega) 4 (.int .i64 (h + 1)))
  have R3 := Lib.hid (R2.out.other (b' := w.heap.size) (by omega) (by omega) 4 (.int .i64 (h + 1)))
  clear T2 P2 R2
  generalize W2.setCell ⟨w.heap.size, 4, none⟩ (.int .i64 (h + 1)) = W3 at *
  have T4 := Lib.hid (show AtS 25 #[.int .i64 i, .int .i64 s, .int .i64 u, .int .i64 v, .int .i64 (h + 1), .int .i64 0] w (W3.setCell ⟨w.heap.size, 5, none⟩ (.int .i64 0)) (w.heap.size) from T3.out.set 5 (.int .i64 0))
  have P4 := Lib.hid (P3.out.other (b' := w.heap.size) (by omega) (by omega) 5 (.int .i64 0))
  have R4 := Lib.hid (R3.out.other (b' := w.heap.size) (by omega) (by omega) 5 (.int .i64 0))
  clear T3 P3 R3
  generalize W3.setCell ⟨w.heap.size, 5, none⟩ (.int .i64 0) = W4 at *
  have cT0 : W4.cell? ⟨w.heap.size, 0, none⟩ = some (.int .i64 i) := T4.out.cell 0
  have cTf0 := T4.out.frozen 0
  have cT1 : W4.cell? ⟨w.heap.size, 1, none⟩ = some (.int .i64 s) := T4.out.cell 1
  have cTf1 := T4.out.frozen 1
  have cT2 : W4.cell? ⟨w.heap.size, 2, none⟩ = some (.int .i64 u) := T4.out.cell 2
  have cTf2 := T4.out.frozen 2
  have cT3 : W4.cell? ⟨w.heap.size, 3, none⟩ = some (.int .i64 v) := T4.out.cell 3
  have cTf3 := T4.out.frozen 3
  have cT4 : W4.cell? ⟨w.heap.size, 4, none⟩ = some (.int .i64 (h + 1)) := T4.out.cell 4
  have cTf4 := T4.out.frozen 4
  have cT5 : W4.cell? ⟨w.heap.size, 5, none⟩ = some (.int .i64 0) := T4.out.cell 5
  have cTf5 := T4.out.frozen 5
  go_wp2_with fail
  refine (SW.out _).mono ?_
  rintro e w' ⟨rfl, rfl⟩
  go_upto_region 4 with fail
  clear cT0 cTf0 cT1 cTf1 cT2 cTf2 cT3 cTf3 cT4 cTf4 cT5 cTf5
  have T5 := Lib.hid (show AtS 25 #[.int .i64 i, .int .i64 t, .int .i64 u, .int .i64 v, .int .i64 (h + 1), .int .i64 0] w (W4.setCell ⟨w.heap.size, 1, none⟩ (.int .i64 t)) (w.heap.size) from T4.out.set 1 (.int .i64 t))
  have P5 := Lib.hid (P4.out.other (b' := w.heap.size) (by omega) (by omega) 1 (.int .i64 t))
  have R5 := Lib.hid (R4.out.other (b' := w.heap.size) (by omega) (by omega) 1 (.int .i64 t))
  clear T4 P4 R4
  generalize W4.setCell ⟨w.heap.size, 1, none⟩ (.int .i64 t) = W5 at *
  have cT0 : W5.cell? ⟨w.heap.size, 0, none⟩ = some (.int .i64 i) := T5.out.cell 0
  have cTf0 := T5.out.frozen 0
  have cT1 : W5.cell? ⟨w.heap.size, 1, none⟩ = some (.int .i64 t) := T5.out.cell 1
  have cTf1 := T5.out.frozen 1
  have cT2 : W5.cell? ⟨w.heap.size, 2, none⟩ = some (.int .i64 u) := T5.out.cell 2
  have cTf2 := T5.out.frozen 2
  have cT3 : W5.cell? ⟨w.heap.size, 3, none⟩ = some (.int .i64 v) := T5.out.cell 3
  have cTf3 := T5.out.frozen 3
  have cT4 : W5.cell? ⟨w.heap.size, 4, none⟩ = some (.int .i64 (h + 1)) := T5.out.cell 4
  have cTf4 := T5.out.frozen 4
  have cT5 : W5.cell? ⟨w.heap.size, 5, none⟩ = some (.int .i64 0) := T5.out.cell 5
  have cTf5 := T5.out.frozen 5
  go_wp2_with fail
  refine (VT.out _).mono ?_
  rintro e W6 ⟨rfl, hb⟩
  clear cT0 cTf0 cT1 cTf1 cT2 cTf2 cT3 cTf3 cT4 cTf4 cT5 cTf5
  have T6 := Lib.hid (T5.out.old hb)
  have P6 := Lib.hid (P5.out.old hb)
  have R6 := Lib.hid (R5.out.old hb)
  clear T5 P5 R5
  clear hb
  have cT0 : W6.cell? ⟨w.heap.size, 0, none⟩ = some (.int .i64 i) := T6.out.cell 0
  have cTf0 := T6.out.frozen 0
  have cT1 : W6.cell? ⟨w.heap.size, 1, none⟩ = some (.int .i64 t) := T6.out.cell 1
  have cTf1 := T6.out.frozen 1
  have cT2 : W6.cell? ⟨w.heap.size, 2, none⟩ = some (.int .i64 u) := T6.out.cell 2
  have cTf2 := T6.out.frozen 2
  have cT3 : W6.cell? ⟨w.heap.size, 3, none⟩ = some (.int .i64 v) := T6.out.cell 3
  have cTf3 := T6.out.frozen 3
  have cT4 : W6.cell? ⟨w.heap.size, 4, none⟩ = some (.int .i64 (h + 1)) := T6.out.cell 4
  have cTf4 := T6.out.frozen 4
  have cT5 : W6.cell? ⟨w.heap.size, 5, none⟩ = some (.int .i64 0) := T6.out.cell 5
  have cTf5 := T6.out.frozen 5
  have cR0 : W6.cell? ⟨w.heap.size + 1 + 1, 0, none⟩ = some (.int .i64 0) := R6.out.cell 0
  have cRf0 := R6.out.frozen 0
  have cR1 : W6.cell? ⟨w.heap.size + 1 + 1, 1, none⟩ = some (.int .i64 0) := R6.out.cell 1
  have cRf1 := R6.out.frozen 1
  have cR2 : W6.cell? ⟨w.heap.size + 1 + 1, 2, none⟩ = some (.int .i64 0) := R6.out.cell 2
  have cRf2 := R6.out.frozen 2
  have cR3 : W6.cell? ⟨w.heap.size + 1 + 1, 3, none⟩ = some (.int .i64 0) := R6.out.cell 3
  have cRf3 := R6.out.frozen 3
  have cR4 : W6.cell? ⟨w.heap.size + 1 + 1, 4, none⟩ = some (.int .i64 0) := R6.out.cell 4
  have cRf4 := R6.out.frozen 4
  have cR5 : W6.cell? ⟨w.heap.size + 1 + 1, 5, none⟩ = some (.int .i64 0) := R6.out.cell 5
  have cRf5 := R6.out.frozen 5
  have HE := Lib.hid ((((((R6.out.set 0 (.int .i64 i)).set 1 (.int .i64 t)).set 2 (.int .i64 u)).set 3 (.int .i64 v)).set 4 (.int .i64 (h + 1))).set 5 (.int .i64 0))
  go_wp2_with fail
  have hl := HE.out.load Tryz.underlying25 rfl (by kernel_rfl)
  refine bodyPost_ret (v := .tuple #[.agg #[.int .i64 i, .int .i64 t, .int .i64 u, .int .i64 v, .int .i64 (h + 1), .int .i64 0], .nilIface]) ?_ rfl ⟨rfl, HE.out.1⟩
  rw [results_cell_tmp rfl]
  simp [asAddr, Result.andThen, hl]

set_option maxRecDepth 100000 in
set_option maxHeartbeats 2000000 in
theorem hitAt_no (i s x y h l u v : Int) (w : World) (h0 : -1000000 ≤ h) (h1 : h ≤ 1000000) (hx : Ex w) (hok : tkB i (sw (h + 1) 0) u v (h + 1) 0 = false) :
    Calls Tryz.prog 46 #[.agg #[.int .i64 i, .int .i64 s, .int .i64 x, .int .i64 y, .int .i64 h, .int .i64 l], .agg #[.int .i64 u, .int .i64 v]] w fun e w' => (∃ a, e = .returned (.tuple #[.agg #[.int .i64 0, .int .i64 0, .int .i64 0, .int .i64 0, .int .i64 0, .int .i64 0], .iface 190 a])) ∧ Below w.heap.size w w' := by
  have T0 := Lib.hid (((newS 25 #[.int .i64 i, .int .i64 s, .int .i64 x, .int .i64 y, .int .i64 h, .int .i64 l] w).alloc (.cells #[.int .i64 u, .int .i64 v] 35)).alloc (.cells #[.int .i64 0, .int .i64 0, .int .i64 0, .int .i64 0, .int .i64 0, .int .i64 0] 25))
  have P0 := Lib.hid (((newS 25 #[.int .i64 i, .int .i64 s, .int .i64 x, .int .i64 y, .int .i64 h, .int .i64 l] w).next 35 #[.int .i64 u, .int .i64 v]).alloc (.cells #[.int .i64 0, .int .i64 0, .int .i64 0, .int .i64 0, .int .i64 0, .int .i64 0] 25))
  rw [World.size_alloc] at P0
  have R0 := Lib.hid (((newS 25 #[.int .i64 i, .int .i64 s, .int .i64 x, .int .i64 y, .int .i64 h, .int .i64 l] w).alloc (.cells #[.int .i64 u, .int .i64 v] 35)).next 25 #[.int .i64 0, .int .i64 0, .int .i64 0, .int .i64 0, .int .i64 0, .int .i64 0])
  rw [World.size_alloc, World.size_alloc] at R0
  have SW := Lib.hid (fun w => stateWith (h + 1) 0 w)
  have VT := Lib.hid (fun w => isValidTrack i (sw (h + 1) 0) u v (h + 1) 0 w)
  obtain ⟨ae, hae⟩ := hx
  have hgl := World.block_lt_of_cell? _ _ hae
  rw [hok] at VT
  clear hok
  have e1 : IntKind.i64.wrap (h + 1) = h + 1 := IntWalk.i64_in _ (by omega)
  generalize sw (h + 1) 0 = t at *
  go_enter Tryz.func46, Tryz.ntmps46
  go_upto_region 1 with fail
  generalize ((w.alloc (.cells #[.int .i64 i, .int .i64 s, .int .i64 x, .int .i64 y, .int .i64 h, .int .i64 l] 25)).alloc (.cells #[.int .i64 u, .int .i64 v] 35)).alloc (.cells #[.int .i64 0, .int .i64 0, .int .i64 0, .int .i64 0, .int .i64 0, .int .i64 0] 25) = W0 at *
  have T1 := Lib.hid T0.out.drew
  have P1 := Lib.hid P0.out.drew
  have R1 := Lib.hid R0.out.drew
  have cT0 : W0.drew.cell? ⟨w.heap.size, 0, none⟩ = some (.int .i64 i) := T1.out.cell 0
  have cTf0 := T1.out.frozen 0
  have cT1 : W0.drew.cell? ⟨w.heap.size, 1, none⟩ = some (.int .i64 s) := T1.out.cell 1
  have cTf1 := T1.out.frozen 1
  have cT2 : W0.drew.cell? ⟨w.heap.size, 2, none⟩ = some (.int .i64 x) := T1.out.cell 2
  have cTf2 := T1.out.frozen 2
  have cT3 : W0.drew.cell? ⟨w.heap.size, 3, none⟩ = some (.int .i64 y) := T1.out.cell 3
  have cTf3 := T1.out.frozen 3
  have cT4 : W0.drew.cell? ⟨w.heap.size, 4, none⟩ = some (.int .i64 h) := T1.out.cell 4
  have cTf4 := T1.out.frozen 4
  have cT5 : W0.drew.cell? ⟨w.heap.size, 5, none⟩ = some (.int .i64 l) := T1.out.cell 5
  have cTf5 := T1.out.frozen 5
  have cP0 : W0.drew.cell? ⟨w.heap.size + 1, 0, none⟩ = some (.int .i64 u) := P1.out.cell 0
  have cPf0 := P1.out.frozen 0
  have cP1 : W0.drew.cell? ⟨w.heap.size + 1, 1, none⟩ = some (.int .i64 v) := P1.out.cell 1
  have cPf1 := P1.out.frozen 1
  have cy3 : (W0.setCell ⟨w.heap.size, 2, none⟩ (.int .i64 u)).drew.cell? ⟨w.heap.size, 3, none⟩ = some (.int .i64 y) := (T1.out.set 2 (.int .i64 u)).cell 3
  have cyf3 : (W0.setCell ⟨w.heap.size, 2, none⟩ (.int .i64 u)).drew.frozen? ⟨w.heap.size, 3, none⟩ = false := (T1.out.set 2 (.int .i64 u)).frozen 3
  have cyp : (W0.setCell ⟨w.heap.size, 2, none⟩ (.int .i64 u)).drew.cell? ⟨w.heap.size + 1, 1, none⟩ = some (.int .i64 v) := (P1.out.other (b' := w.heap.size) (by omega) (by omega) 2 (.int .i64 u)).cell 1
  go_region
  clear cy3 cyf3 cyp
  clear cT0 cTf0 cT1 cTf1 cT2 cTf2 cT3 cTf3 cT4 cTf4 cT5 cTf5
  clear cP0 cPf0 cP1 cPf1
  have T2 := Lib.hid (show AtS 25 #[.int .i64 i, .int .i64 s, .int .i64 u, .int .i64 v, .int .i64 h, .int .i64 l] w ((W0.setCell ⟨w.heap.size, 2, none⟩ (.int .i64 u)).setCell ⟨w.heap.size, 3, none⟩ (.int .i64 v)).drew w.heap.size from ((T0.out.set 2 (.int .i64 u)).set 3 (.int .i64 v)).drew)
  have P2 := Lib.hid (show AtS 35 #[.int .i64 u, .int .i64 v] w ((W0.setCell ⟨w.heap.size, 2, none⟩ (.int .i64 u)).setCell ⟨w.heap.size, 3, none⟩ (.int .i64 v)).drew (w.heap.size + 1) from ((P0.out.other (b' := w.heap.size) (by omega) (by omega) 2 (.int .i64 u)).other (b' := w.heap.size) (by omega) (by omega) 3 (.int .i64 v)).drew)
  have R2 := Lib.hid (show AtS 25 #[.int .i64 0, .int .i64 0, .int .i64 0, .int .i64 0, .int .i64 0, .int .i64 0] w ((W0.setCell ⟨w.heap.size, 2, none⟩ (.int .i64 u)).setCell ⟨w.heap.size, 3, none⟩ (.int .i64 v)).drew (w.heap.size + 1 + 1) from ((R0.out.other (b' := w.heap.size) (by omega) (by omega) 2 (.int .i64 u)).other (b' := w.heap.size) (by omega) (by omega) 3 (.int .i64 v)).drew)
  clear T0 P0 R0 T1 P1 R1
  generalize ((W0.setCell ⟨w.heap.size, 2, none⟩ (.int .i64 u)).setCell ⟨w.heap.size, 3, none⟩ (.int .i64 v)).drew = W2 at *
  have cT0 : W2.cell? ⟨w.heap.size, 0, none⟩ = some (.int .i64 i) := T2.out.cell 0
  have cTf0 := T2.out.frozen 0
  have cT1 : W2.cell? ⟨w.heap.size, 1, none⟩ = some (.int .i64 s) := T2.out.cell 1
  have cTf1 := T2.out.frozen 1
  have cT2 : W2.cell? ⟨w.heap.size, 2, none⟩ = some (.int .i64 u) := T2.out.cell 2
  have cTf2 := T2.out.frozen 2
  have cT3 : W2.cell? ⟨w.heap.size, 3, none⟩ = some (.int .i64 v) := T2.out.cell 3
  have cTf3 := T2.out.frozen 3
  have cT4 : W2.cell? ⟨w.heap.size, 4, none⟩ = some (.int .i64 h) := T2.out.cell 4
  have cTf4 := T2.out.frozen 4
  have cT5 : W2.cell? ⟨w.heap.size, 5, none⟩ = some (.int .i64 l) := T2.out.cell 5
  have cTf5 := T2.out.frozen 5
  go_upto_region 3 with fail
  clear cT0 cTf0 cT1 cTf1 cT2 cTf2 cT3 cTf3 cT4 cTf4 cT5 cTf5
  have T3 := Lib.hid (show AtS 25 #[.int .i64 i, .int .i64 s, .int .i64 u, .int .i64 v, .int .i64 (h + 1), .int .i64 l] w (W2.setCell ⟨w.heap.size, 4, none⟩ (.int .i64 (h + 1))) (w.heap.size) from T2.out.set 4 (.int .i64 (h + 1)))
  have P3 := Lib.hid (P2.out.other (b' := w.heap.size) (by omega) (by omega) 4 (.int .i64 (h + 1)))
  have R3 := Lib.hid (R2.out.other (b' := w.heap.size) (by omega) (by omega) 4 (.int .i64 (h + 1)))
  clear T2 P2 R2
  generalize W2.setCell ⟨w.heap.size, 4, none⟩ (.int .i64 (h + 1)) = W3 at *
  have T4 := Lib.hid (show AtS 25 #[.int .i64 i, .int .i64 s, .int .i64 u, .int .i64 v, .int .i64 (h + 1), .int .i64 0] w (W3.setCell ⟨w.heap.size, 5, none⟩ (.int .i64 0)) (w.heap.size) from T3.out.set 5 (.int .i64 0))
  have P4 := Lib.hid (P3.out.other (b' := w.heap.size) (by omega) (by omega) 5 (.int .i64 0))
  have R4 := Lib.hid (R3.out.other (b' := w.heap.size) (by omega) (by omega) 5 (.int .i64 0))
  clear T3 P3 R3
  generalize W3.setCell ⟨w.heap.size, 5, none⟩ (.int .i64 0) = W4 at *
  have cT0 : W4.cell? ⟨w.heap.size, 0, none⟩ = some (.int .i64 i) := T4.out.cell 0
  have cTf0 := T4.out.frozen 0
  have cT1 : W4.cell? ⟨w.heap.size, 1, none⟩ = some (.int .i64 s) := T4.out.cell 1
  have cTf1 := T4.out.frozen 1
  have cT2 : W4.cell? ⟨w.heap.size, 2, none⟩ = some (.int .i64 u) := T4.out.cell 2
  have cTf2 := T4.out.frozen 2
  have cT3 : W4.cell? ⟨w.heap.size, 3, none⟩ = some (.int .i64 v) := T4.out.cell 3
  have cTf3 := T4.out.frozen 3
  have cT4 : W4.cell? ⟨w.heap.size, 4, none⟩ = some (.int .i64 (h + 1)) := T4.out.cell 4
  have cTf4 := T4.out.frozen 4
  have cT5 : W4.cell? ⟨w.heap.size, 5, none⟩ = some (.int .i64 0) := T4.out.cell 5
  have cTf5 := T4.out.frozen 5
  go_wp2_with fail
  refine (SW.out _).mono ?_
  rintro e w' ⟨rfl, rfl⟩
  go_upto_region 4 with fail
  clear cT0 cTf0 cT1 cTf1 cT2 cTf2 cT3 cTf3 cT4 cTf4 cT5 cTf5
  have T5 := Lib.hid (show AtS 25 #[.int .i64 i, .int .i64 t, .int .i64 u, .int .i64 v, .int .i64 (h + 1), .int .i64 0] w (W4.setCell ⟨w.heap.size, 1, none⟩ (.int .i64 t)) (w.heap.size) from T4.out.set 1 (.int .i64 t))
  have P5 := Lib.hid (P4.out.other (b' := w.heap.size) (by omega) (by omega) 1 (.int .i64 t))
  have R5 := Lib.hid (R4.out.other (b' := w.heap.size) (by omega) (by omega) 1 (.int .i64 t))
  clear T4 P4 R4
  generalize W4.setCell ⟨w.heap.size, 1, none⟩ (.int .i64 t) = W5 at *
  have cT0 : W5.cell? ⟨w.heap.size, 0, none⟩ = some (.int .i64 i) := T5.out.cell 0
  have cTf0 := T5.out.frozen 0
  have cT1 : W5.cell? ⟨w.heap.size, 1, none⟩ = some (.int .i64 t) := T5.out.cell 1
  have cTf1 := T5.out.frozen 1
  have cT2 : W5.cell? ⟨w.heap.size, 2, none⟩ = some (.int .i64 u) := T5.out.cell 2
  have cTf2 := T5.out.frozen 2
  have cT3 : W5.cell? ⟨w.heap.size, 3, none⟩ = some (.int .i64 v) := T5.out.cell 3
  have cTf3 := T5.out.frozen 3
  have cT4 : W5.cell? ⟨w.heap.size, 4, none⟩ = some (.int .i64 (h + 1)) := T5.out.cell 4
  have cTf4 := T5.out.frozen 4
  have cT5 : W5.cell? ⟨w.heap.size, 5, none⟩ = some (.int .i64 0) := T5.out.cell 5
  have cTf5 := T5.out.frozen 5
  go_wp2_with fail
  refine (VT.out _).mono ?_
  rintro e W6 ⟨rfl, hb⟩
  clear cT0 cTf0 cT1 cTf1 cT2 cTf2 cT3 cTf3 cT4 cTf4 cT5 cTf5
  have T6 := Lib.hid (T5.out.old hb)
  have P6 := Lib.hid (P5.out.old hb)
  have R6 := Lib.hid (R5.out.old hb)
  clear T5 P5 R5
  clear hb
  have hg : W6.cell? ⟨1, 0, none⟩ = some (.iface 190 ae) := (R6.out.1.cell hgl).trans hae
  go_upto_region 5 with fail
  have hgd : W6.drew.cell? ⟨1, 0, none⟩ = some (.iface 190 ae) := hg
  have cR0 : W6.cell? ⟨w.heap.size + 1 + 1, 0, none⟩ = some (.int .i64 0) := R6.out.cell 0
  have cRf0 := R6.out.frozen 0
  have cR1 : W6.cell? ⟨w.heap.size + 1 + 1, 1, none⟩ = some (.int .i64 0) := R6.out.cell 1
  have cRf1 := R6.out.frozen 1
  have cR2 : W6.cell? ⟨w.heap.size + 1 + 1, 2, none⟩ = some (.int .i64 0) := R6.out.cell 2
  have cRf2 := R6.out.frozen 2
  have cR3 : W6.cell? ⟨w.heap.size + 1 + 1, 3, none⟩ = some (.int .i64 0) := R6.out.cell 3
  have cRf3 := R6.out.frozen 3
  have cR4 : W6.cell? ⟨w.heap.size + 1 + 1, 4, none⟩ = some (.int .i64 0) := R6.out.cell 4
  have cRf4 := R6.out.frozen 4
  have cR5 : W6.cell? ⟨w.heap.size + 1 + 1, 5, none⟩ = some (.int .i64 0) := R6.out.cell 5
  have cRf5 := R6.out.frozen 5
  have HE := Lib.hid (((((((R6.out.set 0 (.int .i64 0)).set 1 (.int .i64 0)).set 2 (.int .i64 0)).set 3 (.int .i64 0)).set 4 (.int .i64 0)).set 5 (.int .i64 0))).drew
  go_region
  go_wp2_with fail
  have hl := HE.out.load Tryz.underlying25 rfl (by kernel_rfl)
  refine bodyPost_ret (v := .tuple #[.agg #[.int .i64 0, .int .i64 0, .int .i64 0, .int .i64 0, .int .i64 0, .int .i64 0], .iface 190 ae]) ?_ rfl ⟨⟨ae, rfl⟩, HE.out.1⟩
  rw [results_cell_tmp rfl]
  simp [asAddr, Result.andThen, hl]

set_option maxRecDepth 100000 in
set_option maxHeartbeats 2000000 in
theorem missOf_yes (i s x y h l : Int) (w : World) (h0 : -1000000 ≤ l) (h1 : l ≤ 1000000) (hok : tkB i (sw h (l + 1)) x y h (l + 1) = true) :
    Calls Tryz.prog 89 #[.agg #[.int .i64 i, .int .i64 s, .int .i64 x, .int .i64 y, .int .i64 h, .int .i64 l]] w fun e w' => e = .returned (.tuple #[.agg #[.int .i64 i, .int .i64 (sw h (l + 1)), .int .i64 x, .int .i64 y, .int .i64 h, .int .i64 (l + 1)], .nilIface]) ∧ Below w.heap.size w w' := by
  have T0 := Lib.hid ((newS 25 #[.int .i64 i, .int .i64 s, .int .i64 x, .int .i64 y, .int .i64 h, .int .i64 l] w).alloc (.cells #[.int .i64 0, .int .i64 0, .int .i64 0, .int .i64 0, .int .i64 0, .int .i64 0] 25))
  have R0 := Lib.hid ((newS 25 #[.int .i64 i, .int .i64 s, .int .i64 x, .int .i64 y, .int .i64 h, .int .i64 l] w).next 25 #[.int .i64 0, .int .i64 0, .int .i64 0, .int .i64 0, .int .i64 0, .int .i64 0])
  rw [World.size_alloc] at R0
  have SW := Lib.hid (fun w => stateWith h (l + 1) w)
  have VT := Lib.hid (fun w => isValidTrack i (sw h (l + 1)) x y h (l + 1) w)
  rw [hok] at VT
  clear hok
  have e1 : IntKind.i64.wrap (l + 1) = l + 1 := IntWalk.i64_in _ (by omega)
  generalize sw h (l + 1) = t at *
  go_enter Tryz.func89, Tryz.ntmps89
  go_upto_region 1 with fail
  generalize (w.alloc (.cells #[.int .i64 i, .int .i64 s, .int .i64 x, .int .i64 y, .int .i64 h, .int .i64 l] 25)).alloc (.cells #[.int .i64 0, .int .i64 0, .int .i64 0, .int .i64 0, .int .i64 0, .int .i64 0] 25) = W0 at *
  have cT0 : W0.cell? ⟨w.heap.size, 0, none⟩ = some (.int .i64 i) := T0.out.cell 0
  have cTf0 := T0.out.frozen 0
  have cT1 : W0.cell? ⟨w.heap.size, 1, none⟩ = some (.int .i64 s) := T0.out.cell 1
  have cTf1 := T0.out.frozen 1
  have cT2 : W0.cell? ⟨w.heap.size, 2, none⟩ = some (.int .i64 x) := T0.out.cell 2
  have cTf2 := T0.out.frozen 2
  have cT3 : W0.cell? ⟨w.heap.size, 3, none⟩ = some (.int .i64 y) := T0.out.cell 3
  have cTf3 := T0.out.frozen 3
  have cT4 : W0.cell? ⟨w.heap.size, 4, none⟩ = some (.int .i64 h) := T0.out.cell 4
  have cTf4 := T0.out.frozen 4
  have cT5 : W0.cell? ⟨w.heap.size, 5, none⟩ = some (.int .i64 l) := T0.out.cell 5
  have cTf5 := T0.out.frozen 5
  go_upto_region 2 with fail
  clear cT0 cTf0 cT1 cTf1 cT2 cTf2 cT3 cTf3 cT4 cTf4 cT5 cTf5
  have T1 := Lib.hid (show AtS 25 #[.int .i64 i, .int .i64 s, .int .i64 x, .int .i64 y, .int .i64 h, .int .i64 (l + 1)] w (W0.setCell ⟨w.heap.size, 5, none⟩ (.int .i64 (l + 1))) (w.heap.size) from T0.out.set 5 (.int .i64 (l + 1)))
  have R1 := Lib.hid (R0.out.other (b' := w.heap.size) (by omega) (by omega) 5 (.int .i64 (l + 1)))
  clear T0 R0
  generalize W0.setCell ⟨w.heap.size, 5, none⟩ (.int .i64 (l + 1)) = W1 at *
  have cT0 : W1.cell? ⟨w.heap.size, 0, none⟩ = some (.int .i64 i) := T1.out.cell 0
  have cTf0 := T1.out.frozen 0
  have cT1 : W1.cell? ⟨w.heap.size, 1, none⟩ = some (.int .i64 s) := T1.out.cell 1
  have cTf1 := T1.out.frozen 1
  have cT2 : W1.cell? ⟨w.heap.size, 2, none⟩ = some (.int .i64 x) := T1.out.cell 2
  have cTf2 := T1.out.frozen 2
  have cT3 : W1.cell? ⟨w.heap.size, 3, none⟩ = some (.int .i64 y) := T1.out.cell 3
  have cTf3 := T1.out.frozen 3
  have cT4 : W1.cell? ⟨w.heap.size, 4, none⟩ = some (.int .i64 h) := T1.out.cell 4
  have cTf4 := T1.out.frozen 4
  have cT5 : W1.cell? ⟨w.heap.size, 5, none⟩ = some (.int .i64 (l + 1)) := T1.out.cell 5
  have cTf5 := T1.out.frozen 5
  go_wp2_with fail
  refine (SW.out _).mono ?_
  rintro e w' ⟨rfl, rfl⟩
  go_upto_region 3 with fail
  clear cT0 cTf0 cT1 cTf1 cT2 cTf2 cT3 cTf3 cT4 cTf4 cT5 cTf5
  have T2 := Lib.hid (show AtS 25 #[.int .i64 i, .int .i64 t, .int .i64 x, .int .i64 y, .int .i64 h, .int .i64 (l + 1)] w (W1.setCell ⟨w.heap.size, 1, none⟩ (.int .i64 t)) (w.heap.size) from T1.out.set 1 (.int .i64 t))
  have R2 := Lib.hid (R1.out.other (b' := w.heap.size) (by omega) (by omega) 1 (.int .i64 t))
  clear T1 R1
  generalize W1.setCell ⟨w.heap.size, 1, none⟩ (.int .i64 t) = W2 at *
  have cT0 : W2.cell? ⟨w.heap.size, 0, none⟩ = some (.int .i64 i) := T2.out.cell 0
  have cTf0 := T2.out.frozen 0
  have cT1 : W2.cell? ⟨w.heap.size, 1, none⟩ = some (.int .i64 t) := T2.out.cell 1
  have cTf1 := T2.out.frozen 1
  have cT2 : W2.cell? ⟨w.heap.size, 2, none⟩ = some (.int .i64 x) := T2.out.cell 2
  have cTf2 := T2.out.frozen 2
  have cT3 : W2.cell? ⟨w.heap.size, 3, none⟩ = some (.int .i64 y) := T2.out.cell 3
  have cTf3 := T2.out.frozen 3
  have cT4 : W2.cell? ⟨w.heap.size, 4, none⟩ = some (.int .i64 h) := T2.out.cell 4
  have cTf4 := T2.out.frozen 4
  have cT5 : W2.cell? ⟨w.heap.size, 5, none⟩ = some (.int .i64 (l + 1)) := T2.out.cell 5
  have cTf5 := T2.out.frozen 5
  go_wp2_with fail
  refine (VT.out _).mono ?_
  rintro e W3 ⟨rfl, hb⟩
  clear cT0 cTf0 cT1 cTf1 cT2 cTf2 cT3 cTf3 cT4 cTf4 cT5 cTf5
  have T3 := Lib.hid (T2.out.old hb)
  have R3 := Lib.hid (R2.out.old hb)
  clear T2 R2
  clear hb
  have cT0 : W3.cell? ⟨w.heap.size, 0, none⟩ = some (.int .i64 i) := T3.out.cell 0
  have cTf0 := T3.out.frozen 0
  have cT1 : W3.cell? ⟨w.heap.size, 1, none⟩ = some (.int .i64 t) := T3.out.cell 1
  have cTf1 := T3.out.frozen 1
  have cT2 : W3.cell? ⟨w.heap.size, 2, none⟩ = some (.int .i64 x) := T3.out.cell 2
  have cTf2 := T3.out.frozen 2
  have cT3 : W3.cell? ⟨w.heap.size, 3, none⟩ = some (.int .i64 y) := T3.out.cell 3
  have cTf3 := T3.out.frozen 3
  have cT4 : W3.cell? ⟨w.heap.size, 4, none⟩ = some (.int .i64 h) := T3.out.cell 4
  have cTf4 := T3.out.frozen 4
  have cT5 : W3.cell? ⟨w.heap.size, 5, none⟩ = some (.int .i64 (l + 1)) := T3.out.cell 5
  have cTf5 := T3.out.frozen 5
  have cR0 : W3.cell? ⟨w.heap.size + 1, 0, none⟩ = some (.int .i64 0) := R3.out.cell 0
  have cRf0 := R3.out.frozen 0
  have cR1 : W3.cell? ⟨w.heap.size + 1, 1, none⟩ = some (.int .i64 0) := R3.out.cell 1
  have cRf1 := R3.out.frozen 1
  have cR2 : W3.cell? ⟨w.heap.size + 1, 2, none⟩ = some (.int .i64 0) := R3.out.cell 2
  have cRf2 := R3.out.frozen 2
  have cR3 : W3.cell? ⟨w.heap.size + 1, 3, none⟩ = some (.int .i64 0) := R3.out.cell 3
  have cRf3 := R3.out.frozen 3
  have cR4 : W3.cell? ⟨w.heap.size + 1, 4, none⟩ = some (.int .i64 0) := R3.out.cell 4
  have cRf4 := R3.out.frozen 4
  have cR5 : W3.cell? ⟨w.heap.size + 1, 5, none⟩ = some (.int .i64 0) := R3.out.cell 5
  have cRf5 := R3.out.frozen 5
  have HE := Lib.hid ((((((R3.out.set 0 (.int .i64 i)).set 1 (.int .i64 t)).set 2 (.int .i64 x)).set 3 (.int .i64 y)).set 4 (.int .i64 h)).set 5 (.int .i64 (l + 1)))
  go_wp2_with fail
  have hl := HE.out.load Tryz.underlying25 rfl (by kernel_rfl)
  refine bodyPost_ret (v := .tuple #[.agg #[.int .i64 i, .int .i64 t, .int .i64 x, .int .i64 y, .int .i64 h, .int .i64 (l + 1)], .nilIface]) ?_ rfl ⟨rfl, HE.out.1⟩
  rw [results_cell_tmp rfl]
  simp [asAddr, Result.andThen, hl]

set_option maxRecDepth 100000 in
set_option maxHeartbeats 2000000 in
theorem missOf_no (i s x y h l : Int) (w : World) (h0 : -1000000 ≤ l) (h1 : l ≤ 1000000) (hok : tkB i (sw h (l + 1)) x y h (l + 1) = false) :
    Calls Tryz.prog 89 #[.agg #[.int .i64 i, .int .i64 s, .int .i64 x, .int .i64 y, .int .i64 h, .int .i64 l]] w fun e w' => e = .returned (.tuple #[.agg #[.int .i64 0, .int .i64 0, .int .i64 0, .int .i64 0, .int .i64 0, .int .i64 0], .iface 138 (.agg #[])]) ∧ Below w.heap.size w w' := by
  have T0 := Lib.hid ((newS 25 #[.int .i64 i, .int .i64 s, .int .i64 x, .int .i64 y, .int .i64 h, .int .i64 l] w).alloc (.cells #[.int .i64 0, .int .i64 0, .int .i64 0, .int .i64 0, .int .i64 0, .int .i64 0] 25))
  have R0 := Lib.hid ((newS 25 #[.int .i64 i, .int .i64 s, .int .i64 x, .int .i64 y, .int .i64 h, .int .i64 l] w).next 25 #[.int .i64 0, .int .i64 0, .int .i64 0, .int .i64 0, .int .i64 0, .int .i64 0])
  rw [World.size_alloc] at R0
  have SW := Lib.hid (fun w => stateWith h (l + 1) w)
  have VT := Lib.hid (fun w => isValidTrack i (sw h (l + 1)) x y h (l + 1) w)
  rw [hok] at VT
  clear hok
  have e1 : IntKind.i64.wrap (l + 1) = l + 1 := IntWalk.i64_in _ (by omega)
  generalize sw h (l + 1) = t at *
  go_enter Tryz.func89, Tryz.ntmps89
  go_upto_region 1 with fail
  generalize (w.alloc (.cells #[.int .i64 i, .int .i64 s, .int .i64 x, .int .i64 y, .int .i64 h, .int .i64 l] 25)).alloc (.cells #[.int .i64 0, .int .i64 0, .int .i64 0, .int .i64 0, .int .i64 0, .int .i64 0] 25) = W0 at *
  have cT0 : W0.cell? ⟨w.heap.size, 0, none⟩ = some (.int .i64 i) := T0.out.cell 0
  have cTf0 := T0.out.frozen 0
  have cT1 : W0.cell? ⟨w.heap.size, 1, none⟩ = some (.int .i64 s) := T0.out.cell 1
  have cTf1 := T0.out.frozen 1
  have cT2 : W0.cell? ⟨w.heap.size, 2, none⟩ = some (.int .i64 x) := T0.out.cell 2
  have cTf2 := T0.out.frozen 2
  have cT3 : W0.cell? ⟨w.heap.size, 3, none⟩ = some (.int .i64 y) := T0.out.cell 3
  have cTf3 := T0.out.frozen 3
  have cT4 : W0.cell? ⟨w.heap.size, 4, none⟩ = some (.int .i64 h) := T0.out.cell 4
  have cTf4 := T0.out.frozen 4
  have cT5 : W0.cell? ⟨w.heap.size, 5, none⟩ = some (.int .i64 l) := T0.out.cell 5
  have cTf5 := T0.out.frozen 5
  go_upto_region 2 with fail
  clear cT0 cTf0 cT1 cTf1 cT2 cTf2 cT3 cTf3 cT4 cTf4 cT5 cTf5
  have T1 := Lib.hid (show AtS 25 #[.int .i64 i, .int .i64 s, .int .i64 x, .int .i64 y, .int .i64 h, .int .i64 (l + 1)] w (W0.setCell ⟨w.heap.size, 5, none⟩ (.int .i64 (l + 1))) (w.heap.size) from T0.out.set 5 (.int .i64 (l + 1)))
  have R1 := Lib.hid (R0.out.other (b' := w.heap.size) (by omega) (by omega) 5 (.int .i64 (l + 1)))
  clear T0 R0
  generalize W0.setCell ⟨w.heap.size, 5, none⟩ (.int .i64 (l + 1)) = W1 at *
  have cT0 : W1.cell? ⟨w.heap.size, 0, none⟩ = some (.int .i64 i) := T1.out.cell 0
  have cTf0 := T1.out.frozen 0
  have cT1 : W1.cell? ⟨w.heap.size, 1, none⟩ = some (.int .i64 s) := T1.out.cell 1
  have cTf1 := T1.out.frozen 1
  have cT2 : W1.cell? ⟨w.heap.size, 2, none⟩ = some (.int .i64 x) := T1.out.cell 2
  have cTf2 := T1.out.frozen 2
  have cT3 : W1.cell? ⟨w.heap.size, 3, none⟩ = some (.int .i64 y) := T1.out.cell 3
  have cTf3 := T1.out.frozen 3
  have cT4 : W1.cell? ⟨w.heap.size, 4, none⟩ = some (.int .i64 h) := T1.out.cell 4
  have cTf4 := T1.out.frozen 4
  have cT5 : W1.cell? ⟨w.heap.size, 5, none⟩ = some (.int .i64 (l + 1)) := T1.out.cell 5
  have cTf5 := T1.out.frozen 5
  go_wp2_with fail
  refine (SW.out _).mono ?_
  rintro e w' ⟨rfl, rfl⟩
  go_upto_region 3 with fail
  clear cT0 cTf0 cT1 cTf1 cT2 cTf2 cT3 cTf3 cT4 cTf4 cT5 cTf5
  have T2 := Lib.hid (show AtS 25 #[.int .i64 i, .int .i64 t, .int .i64 x, .int .i64 y, .int .i64 h, .int .i64 (l + 1)] w (W1.setCell ⟨w.heap.size, 1, none⟩ (.int .i64 t)) (w.heap.size) from T1.out.set 1 (.int .i64 t))
  have R2 := Lib.hid (R1.out.other (b' := w.heap.size) (by omega) (by omega) 1 (.int .i64 t))
  clear T1 R1
  generalize W1.setCell ⟨w.heap.size, 1, none⟩ (.int .i64 t) = W2 at *
  have cT0 : W2.cell? ⟨w.heap.size, 0, none⟩ = some (.int .i64 i) := T2.out.cell 0
  have cTf0 := T2.out.frozen 0
  have cT1 : W2.cell? ⟨w.heap.size, 1, none⟩ = some (.int .i64 t) := T2.out.cell 1
  have cTf1 := T2.out.frozen 1
  have cT2 : W2.cell? ⟨w.heap.size, 2, none⟩ = some (.int .i64 x) := T2.out.cell 2
  have cTf2 := T2.out.frozen 2
  have cT3 : W2.cell? ⟨w.heap.size, 3, none⟩ = some (.int .i64 y) := T2.out.cell 3
  have cTf3 := T2.out.frozen 3
  have cT4 : W2.cell? ⟨w.heap.size, 4, none⟩ = some (.int .i64 h) := T2.out.cell 4
  have cTf4 := T2.out.frozen 4
  have cT5 : W2.cell? ⟨w.heap.size, 5, none⟩ = some (.int .i64 (l + 1)) := T2.out.cell 5
  have cTf5 := T2.out.frozen 5
  go_wp2_with fail
  refine (VT.out _).mono ?_
  rintro e W3 ⟨rfl, hb⟩
  clear cT0 cTf0 cT1 cTf1 cT2 cTf2 cT3 cTf3 cT4 cTf4 cT5 cTf5
  have T3 := Lib.hid (T2.out.old hb)
  have R3 := Lib.hid (R2.out.old hb)
  clear T2 R2
  clear hb
  have cT0 : W3.cell? ⟨w.heap.size, 0, none⟩ = some (.int .i64 i) := T3.out.cell 0
  have cTf0 := T3.out.frozen 0
  have cT1 : W3.cell? ⟨w.heap.size, 1, none⟩ = some (.int .i64 t) := T3.out.cell 1
  have cTf1 := T3.out.frozen 1
  have cT2 : W3.cell? ⟨w.heap.size, 2, none⟩ = some (.int .i64 x) := T3.out.cell 2
  have cTf2 := T3.out.frozen 2
  have cT3 : W3.cell? ⟨w.heap.size, 3, none⟩ = some (.int .i64 y) := T3.out.cell 3
  have cTf3 := T3.out.frozen 3
  have cT4 : W3.cell? ⟨w.heap.size, 4, none⟩ = some (.int .i64 h) := T3.out.cell 4
  have cTf4 := T3.out.frozen 4
  have cT5 : W3.cell? ⟨w.heap.size, 5, none⟩ = some (.int .i64 (l + 1)) := T3.out.cell 5
  have cTf5 := T3.out.frozen 5
  have cR0 : W3.cell? ⟨w.heap.size + 1, 0, none⟩ = some (.int .i64 0) := R3.out.cell 0
  have cRf0 := R3.out.frozen 0
  have cR1 : W3.cell? ⟨w.heap.size + 1, 1, none⟩ = some (.int .i64 0) := R3.out.cell 1
  have cRf1 := R3.out.frozen 1
  have cR2 : W3.cell? ⟨w.heap.size + 1, 2, none⟩ = some (.int .i64 0) := R3.out.cell 2
  have cRf2 := R3.out.frozen 2
  have cR3 : W3.cell? ⟨w.heap.size + 1, 3, none⟩ = some (.int .i64 0) := R3.out.cell 3
  have cRf3 := R3.out.frozen 3
  have cR4 : W3.cell? ⟨w.heap.size + 1, 4, none⟩ = some (.int .i64 0) := R3.out.cell 4
  have cRf4 := R3.out.frozen 4
  have cR5 : W3.cell? ⟨w.heap.size + 1, 5, none⟩ = some (.int .i64 0) := R3.out.cell 5
  have cRf5 := R3.out.frozen 5
  have HE := Lib.hid ((((((R3.out.set 0 (.int .i64 0)).set 1 (.int .i64 0)).set 2 (.int .i64 0)).set 3 (.int .i64 0)).set 4 (.int .i64 0)).set 5 (.int .i64 0))
  go_wp2_with fail
  have hl := HE.out.load Tryz.underlying25 rfl (by kernel_rfl)
  refine bodyPost_ret (v := .tuple #[.agg #[.int .i64 0, .int .i64 0, .int .i64 0, .int .i64 0, .int .i64 0, .int .i64 0], .iface 138 (.agg #[])]) ?_ rfl ⟨rfl, HE.out.1⟩
  rw [results_cell_tmp rfl]
  simp [asAddr, Result.andThen, hl]

end Go.Proofs.YtfigjfckelichaaGreatDoor.trkc
