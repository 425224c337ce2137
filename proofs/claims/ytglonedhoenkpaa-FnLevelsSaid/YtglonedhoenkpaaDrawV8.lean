/- spec's velocity. -/
import Derived.Test.YtglonedhoenkpaaAtC
import Derived.Test.YtglonedhoenkpaaCurInt
import Derived.Test.YtglonedhoenkpaaVel
namespace Go.Proofs.Ytglonedhoenkpaa.drawv8
open Go.RowKit Go.Proofs.Ytglonedhoenkpaa.cur Go.Proofs.Ytglonedhoenkpaa.atc

def Vin (x y : Int) : Prop := (-201 ≤ x ∧ x ≤ 201) ∧ -201 ≤ y ∧ y ≤ 201
/-- What a draw of a velocity returns. -/
def VelQ (p m : Nat) (w : World) (e : Ending) (w' : World) : Prop := ∃ x y, e = .returned (.agg #[.int .i64 x, .int .i64 y]) ∧ Vin x y ∧ Cur w' p m ∧ w.grownBy w' (some p)

set_option maxRecDepth 100000 in
set_option maxHeartbeats 8000000  in
theorem velocity (p m : Nat) (w : World) (h : Cur w p m) (hm : m ≤ 500000) :
    Calls Try.prog 71 #[.pointer (some ⟨p, 0, none⟩)] w (VelQ p (m + 20) w) := by
  have hp := h.lt
  have C0 := Lib.hid (newC 50 #[.int .i64 0, .int .i64 0] hp)
  have HC0 := Lib.hid (Cur.alloc h (.cells #[.int .i64 0, .int .i64 0] 50))
  clear h
  go_enter Try.func71, Try.ntmps71
  go_wp2_with fail
  have HZ : (w.alloc (.cells #[.int .i64 0, .int .i64 0] 50)).heap.size = w.heap.size + 1 := by rw [World.size_alloc]
  generalize w.alloc (.cells #[.int .i64 0, .int .i64 0] 50) = W at *
  refine (among_at (-201) 201 p m 11 (w.heap.size + 1) [0, 5, -5, 12, -29, 29, 70, -70, 100, 200, -200] _ W HC0.out (by omega) (by omega) (by omega) rfl rfl (by decide) HZ).mono ?_
  rintro e wa ⟨x, rfl, x0, x1, hca, hga⟩
  have Ca := Lib.hid (C0.out.old hga)
  have HCa := Lib.hid hca
  clear hca hga C0 HC0 HZ
  go_wp2_with fail
  refine (among_new (-201) 201 p (m + 2) 10 [0, 5, -5, 12, 70, -70, 29, -100, 200, -200] _ wa HCa.out (by omega) (by omega) (by omega) rfl rfl (by decide)).mono ?_
  rintro e wb ⟨y, rfl, y0, y1, hcb, hgb⟩
  have Cb := Ca.out.old hgb
  have HLE := Lib.hid (show w.heap.size < wb.heap.size from Cb.2.2.2.1)
  have HPB := Lib.hid (show p < wb.heap.size from hcb.lt)
  have C2 := Lib.hid (Cb.alloc (.cells #[.int .i64 x, .int .i64 y] 50))
  have F2 := Lib.hid (Cb.next 50 #[.int .i64 x, .int .i64 y])
  have HC2 := Lib.hid (Cur.alloc hcb (.cells #[.int .i64 x, .int .i64 y] 50))
  clear Cb hcb hgb Ca HCa
  go_wp2_with fail
  generalize wb.alloc (.cells #[.int .i64 x, .int .i64 y] 50) = w2 at *
  generalize wb.heap.size = b3 at *
  refine (one p (m + 4) 3 w2 HC2.out (by omega) (by omega) (by omega)).mono ?_
  rintro e w3 ⟨i0, rfl, hc3, hg3⟩
  have C3 := Lib.hid (C2.out.old hg3)
  have F3 := Lib.hid (F2.out.old hg3)
  have HC3 := Lib.hid hc3
  clear hc3 hg3 C2 F2 HC2
  cases i0
  · go_wp2_with fail
    refine (one p (m + 6) 24 w3 HC3.out (by omega) (by omega) (by omega)).mono ?_
    rintro e w4 ⟨i1, rfl, hc4, hg4⟩
    have C4 := Lib.hid (C3.out.old hg4)
    have F4 := Lib.hid (F3.out.old hg4)
    have HC4 := Lib.hid hc4
    clear hc4 hg4 C3 F3 HC3
    cases i1
    · go_wp2_with fail
      refine (one p (m + 8) 30 w4 HC4.out (by omega) (by omega) (by omega)).mono ?_
      rintro e w5 ⟨i2, rfl, hc5, hg5⟩
      have C5 := Lib.hid (C4.out.old hg5)
      have F5 := Lib.hid (F4.out.old hg5)
      have HC5 := Lib.hid hc5
      clear hc5 hg5 C4 F4 HC4
      cases i2
      · have c0 : w5.cell? ⟨w.heap.size, 0, none⟩ = some (.int .i64 0) := C5.out.cell 0
        have c1 : w5.cell? ⟨w.heap.size, 1, none⟩ = some (.int .i64 0) := C5.out.cell 1
        have f0 := C5.out.frozen 0
        have f1 := C5.out.frozen 1
        have q0 : w5.cell? ⟨b3, 0, none⟩ = some (.int .i64 x) := F5.out.cell 0
        have q1 : w5.cell? ⟨b3, 1, none⟩ = some (.int .i64 y) := F5.out.cell 1
        have HE := Lib.hid ((C5.out.set 0 (.int .i64 x)).set 1 (.int .i64 y))
        have HB := Lib.hid (Cur.set (Cur.set HC5.out C5.out.2.2.1 (i := 0) (v := .int .i64 x)) C5.out.2.2.1 (i := 1) (v := .int .i64 y))
        clear C5 F5 HC5
        go_wp2_with fail
        have hl := HE.out.load Try.underlying50 rfl (by kernel_rfl)
        refine bodyPost_ret (v := .agg #[.int .i64 x, .int .i64 y]) ?_ rfl ⟨_, _, rfl, ⟨⟨by omega, by omega⟩, by omega, by omega⟩, HB.out.more (by omega), HE.out.1⟩
        rw [ats.results_cell1 rfl]
        simp [asAddr, Result.andThen, hl]
      · go_wp2_with fail
        refine (among_new (-201) 201 p (m + 10) 2 [201, -201] _ w5 HC5.out (by omega) (by omega) (by omega) rfl rfl (by decide)).mono ?_
        rintro e w6 ⟨u1, rfl, u10, u11, hc6, hg6⟩
        have C6 := Lib.hid (C5.out.old hg6)
        have F6 := Lib.hid (F5.out.old hg6)
        have HC6 := Lib.hid hc6
        clear hc6 hg6 C5 F5 HC5
        have r0 : w6.cell? ⟨b3, 0, none⟩ = some (.int .i64 x) := F6.out.cell 0
        have r1 : w6.cell? ⟨b3, 1, none⟩ = some (.int .i64 y) := F6.out.cell 1
        have g0 := F6.out.frozen 0
        have g1 := F6.out.frozen 1
        have F7 := Lib.hid (F6.out.set 1 (.int .i64 u1))
        have C7 := Lib.hid (C6.out.other (b' := b3) HLE.out 1 (.int .i64 u1))
        have HC7 := Lib.hid (Cur.set HC6.out HPB.out (i := 1) (v := .int .i64 u1))
        clear F6 C6 HC6
        have c0 : (w6.setCell ⟨b3, 1, none⟩ (.int .i64 u1)).cell? ⟨w.heap.size, 0, none⟩ = some (.int .i64 0) := C7.out.cell 0
        have c1 : (w6.setCell ⟨b3, 1, none⟩ (.int .i64 u1)).cell? ⟨w.heap.size, 1, none⟩ = some (.int .i64 0) := C7.out.cell 1
        have f0 := C7.out.frozen 0
        have f1 := C7.out.frozen 1
        have q0 : (w6.setCell ⟨b3, 1, none⟩ (.int .i64 u1)).cell? ⟨b3, 0, none⟩ = some (.int .i64 x) := F7.out.cell 0
        have q1 : (w6.setCell ⟨b3, 1, none⟩ (.int .i64 u1)).cell? ⟨b3, 1, none⟩ = some (.int .i64 u1) := F7.out.cell 1
        have HE := Lib.hid ((C7.out.set 0 (.int .i64 x)).set 1 (.int .i64 u1))
        have HB := Lib.hid (Cur.set (Cur.set HC7.out C7.out.2.2.1 (i := 0) (v := .int .i64 x)) C7.out.2.2.1 (i := 1) (v := .int .i64 u1))
        clear C7 F7 HC7
        go_wp2_with fail
        have hl := HE.out.load Try.underlying50 rfl (by kernel_rfl)
        refine bodyPost_ret (v := .agg #[.int .i64 x, .int .i64 u1]) ?_ rfl ⟨_, _, rfl, ⟨⟨by omega, by omega⟩, by omega, by omega⟩, HB.out.more (by omega), HE.out.1⟩
        rw [ats.results_cell1 rfl]
        simp [asAddr, Result.andThen, hl]
    · go_wp2_with fail
      refine (among_new (-201) 201 p (m + 8) 2 [201, -201] _ w4 HC4.out (by omega) (by omega) (by omega) rfl rfl (by decide)).mono ?_
      rintro e w5 ⟨z1, rfl, z10, z11, hc5, hg5⟩
      have C5 := Lib.hid (C4.out.old hg5)
      have F5 := Lib.hid (F4.out.old hg5)
      have HC5 := Lib.hid hc5
      clear hc5 hg5 C4 F4 HC4
      have q0 : w5.cell? ⟨b3, 0, none⟩ = some (.int .i64 x) := F5.out.cell 0
      have q1 : w5.cell? ⟨b3, 1, none⟩ = some (.int .i64 y) := F5.out.cell 1
      have g0 := F5.out.frozen 0
      have g1 := F5.out.frozen 1
      have F6 := Lib.hid (F5.out.set 0 (.int .i64 z1))
      have C6 := Lib.hid (C5.out.other (b' := b3) HLE.out 0 (.int .i64 z1))
      have HC6 := Lib.hid (Cur.set HC5.out HPB.out (i := 0) (v := .int .i64 z1))
      clear F5 C5 HC5
      go_wp2_with fail
      generalize (w5.setCell ⟨b3, 0, none⟩ (.int .i64 z1)) = w6 at *
      clear q0 q1 g0 g1
      refine (one p (m + 10) 30 w6 HC6.out (by omega) (by omega) (by omega)).mono ?_
      rintro e w7 ⟨i2, rfl, hc7, hg7⟩
      have C7 := Lib.hid (C6.out.old hg7)
      have F7 := Lib.hid (F6.out.old hg7)
      have HC7 := Lib.hid hc7
      clear hc7 hg7 C6 F6 HC6
      cases i2
      · have c0 : w7.cell? ⟨w.heap.size, 0, none⟩ = some (.int .i64 0) := C7.out.cell 0
        have c1 : w7.cell? ⟨w.heap.size, 1, none⟩ = some (.int .i64 0) := C7.out.cell 1
        have f0 := C7.out.frozen 0
        have f1 := C7.out.frozen 1
        have q0 : w7.cell? ⟨b3, 0, none⟩ = some (.int .i64 z1) := F7.out.cell 0
        have q1 : w7.cell? ⟨b3, 1, none⟩ = some (.int .i64 y) := F7.out.cell 1
        have HE := Lib.hid ((C7.out.set 0 (.int .i64 z1)).set 1 (.int .i64 y))
        have HB := Lib.hid (Cur.set (Cur.set HC7.out C7.out.2.2.1 (i := 0) (v := .int .i64 z1)) C7.out.2.2.1 (i := 1) (v := .int .i64 y))
        clear C7 F7 HC7
        go_wp2_with fail
        have hl := HE.out.load Try.underlying50 rfl (by kernel_rfl)
        refine bodyPost_ret (v := .agg #[.int .i64 z1, .int .i64 y]) ?_ rfl ⟨_, _, rfl, ⟨⟨by omega, by omega⟩, by omega, by omega⟩, HB.out.more (by omega), HE.out.1⟩
        rw [ats.results_cell1 rfl]
        simp [asAddr, Result.andThen, hl]
      · go_wp2_with fail
        refine (among_new (-201) 201 p (m + 12) 2 [201, -201] _ w7 HC7.out (by omega) (by omega) (by omega) rfl rfl (by decide)).mono ?_
        rintro e w8 ⟨u1, rfl, u10, u11, hc8, hg8⟩
        have C8 := Lib.hid (C7.out.old hg8)
        have F8 := Lib.hid (F7.out.old hg8)
        have HC8 := Lib.hid hc8
        clear hc8 hg8 C7 F7 HC7
        have r0 : w8.cell? ⟨b3, 0, none⟩ = some (.int .i64 z1) := F8.out.cell 0
        have r1 : w8.cell? ⟨b3, 1, none⟩ = some (.int .i64 y) := F8.out.cell 1
        have g0 := F8.out.frozen 0
        have g1 := F8.out.frozen 1
        have F9 := Lib.hid (F8.out.set 1 (.int .i64 u1))
        have C9 := Lib.hid (C8.out.other (b' := b3) HLE.out 1 (.int .i64 u1))
        have HC9 := Lib.hid (Cur.set HC8.out HPB.out (i := 1) (v := .int .i64 u1))
        clear F8 C8 HC8
        have c0 : (w8.setCell ⟨b3, 1, none⟩ (.int .i64 u1)).cell? ⟨w.heap.size, 0, none⟩ = some (.int .i64 0) := C9.out.cell 0
        have c1 : (w8.setCell ⟨b3, 1, none⟩ (.int .i64 u1)).cell? ⟨w.heap.size, 1, none⟩ = some (.int .i64 0) := C9.out.cell 1
        have f0 := C9.out.frozen 0
        have f1 := C9.out.frozen 1
        have q0 : (w8.setCell ⟨b3, 1, none⟩ (.int .i64 u1)).cell? ⟨b3, 0, none⟩ = some (.int .i64 z1) := F9.out.cell 0
        have q1 : (w8.setCell ⟨b3, 1, none⟩ (.int .i64 u1)).cell? ⟨b3, 1, none⟩ = some (.int .i64 u1) := F9.out.cell 1
        have HE := Lib.hid ((C9.out.set 0 (.int .i64 z1)).set 1 (.int .i64 u1))
        have HB := Lib.hid (Cur.set (Cur.set HC9.out C9.out.2.2.1 (i := 0) (v := .int .i64 z1)) C9.out.2.2.1 (i := 1) (v := .int .i64 u1))
        clear C9 F9 HC9
        go_wp2_with fail
        have hl := HE.out.load Try.underlying50 rfl (by kernel_rfl)
        refine bodyPost_ret (v := .agg #[.int .i64 z1, .int .i64 u1]) ?_ rfl ⟨_, _, rfl, ⟨⟨by omega, by omega⟩, by omega, by omega⟩, HB.out.more (by omega), HE.out.1⟩
        rw [ats.results_cell1 rfl]
        simp [asAddr, Result.andThen, hl]
  · go_wp2_with fail
    refine (pick p (m + 6) 401 w3 HC3.out (by omega) (by omega) (by omega)).mono ?_
    rintro e w4 ⟨z, rfl, z0, z1, hc4, hg4⟩
    have C4 := Lib.hid (C3.out.old hg4)
    have F4 := Lib.hid (F3.out.old hg4)
    have HC4 := Lib.hid hc4
    clear hc4 hg4 C3 F3 HC3
    go_wp2_with fail
    refine (pick p (m + 8) 401 w4 HC4.out (by omega) (by omega) (by omega)).mono ?_
    rintro e w5 ⟨u, rfl, u0, u1, hc5, hg5⟩
    have C5 := Lib.hid (C4.out.old hg5)
    have F5 := Lib.hid (F4.out.old hg5)
    have HC5 := Lib.hid hc5
    clear hc5 hg5 C4 F4 HC4
    have q0 : w5.cell? ⟨b3, 0, none⟩ = some (.int .i64 x) := F5.out.cell 0
    have q1 : w5.cell? ⟨b3, 1, none⟩ = some (.int .i64 y) := F5.out.cell 1
    have g0 := F5.out.frozen 0
    have g1 := F5.out.frozen 1
    have F6 := Lib.hid ((F5.out.set 0 (.int .i64 (z - 200))).set 1 (.int .i64 (u - 200)))
    have C6 := Lib.hid ((C5.out.other (b' := b3) HLE.out 0 (.int .i64 (z - 200))).other (b' := b3) HLE.out 1 (.int .i64 (u - 200)))
    have HC6 := Lib.hid (Cur.set (Cur.set HC5.out HPB.out (i := 0) (v := .int .i64 (z - 200))) HPB.out (i := 1) (v := .int .i64 (u - 200)))
    clear F5 C5 HC5
    go_wp2_with fail
    generalize ((w5.setCell ⟨b3, 0, none⟩ (.int .i64 (z - 200))).setCell ⟨b3, 1, none⟩ (.int .i64 (u - 200))) = w6 at *
    clear q0 q1 g0 g1
    refine (one p (m + 10) 24 w6 HC6.out (by omega) (by omega) (by omega)).mono ?_
    rintro e w7 ⟨i1, rfl, hc7, hg7⟩
    have C7 := Lib.hid (C6.out.old hg7)
    have F7 := Lib.hid (F6.out.old hg7)
    have HC7 := Lib.hid hc7
    clear hc7 hg7 C6 F6 HC6
    cases i1
    · go_wp2_with fail
      refine (one p (m + 12) 30 w7 HC7.out (by omega) (by omega) (by omega)).mono ?_
      rintro e w8 ⟨i2, rfl, hc8, hg8⟩
      have C8 := Lib.hid (C7.out.old hg8)
      have F8 := Lib.hid (F7.out.old hg8)
      have HC8 := Lib.hid hc8
      clear hc8 hg8 C7 F7 HC7
      cases i2
      · have c0 : w8.cell? ⟨w.heap.size, 0, none⟩ = some (.int .i64 0) := C8.out.cell 0
        have c1 : w8.cell? ⟨w.heap.size, 1, none⟩ = some (.int .i64 0) := C8.out.cell 1
        have f0 := C8.out.frozen 0
        have f1 := C8.out.frozen 1
        have q0 : w8.cell? ⟨b3, 0, none⟩ = some (.int .i64 (z - 200)) := F8.out.cell 0
        have q1 : w8.cell? ⟨b3, 1, none⟩ = some (.int .i64 (u - 200)) := F8.out.cell 1
        have HE := Lib.hid ((C8.out.set 0 (.int .i64 (z - 200))).set 1 (.int .i64 (u - 200)))
        have HB := Lib.hid (Cur.set (Cur.set HC8.out C8.out.2.2.1 (i := 0) (v := .int .i64 (z - 200))) C8.out.2.2.1 (i := 1) (v := .int .i64 (u - 200)))
        clear C8 F8 HC8
        go_wp2_with fail
        have hl := HE.out.load Try.underlying50 rfl (by kernel_rfl)
        refine bodyPost_ret (v := .agg #[.int .i64 (z - 200), .int .i64 (u - 200)]) ?_ rfl ⟨_, _, rfl, ⟨⟨by omega, by omega⟩, by omega, by omega⟩, HB.out.more (by omega), HE.out.1⟩
        rw [ats.results_cell1 rfl]
        simp [asAddr, Result.andThen, hl]
      · go_wp2_with fail
        refine (among_new (-201) 201 p (m + 14) 2 [201, -201] _ w8 HC8.out (by omega) (by omega) (by omega) rfl rfl (by decide)).mono ?_
        rintro e w9 ⟨u1, rfl, u10, u11, hc9, hg9⟩
        have C9 := Lib.hid (C8.out.old hg9)
        have F9 := Lib.hid (F8.out.old hg9)
        have HC9 := Lib.hid hc9
        clear hc9 hg9 C8 F8 HC8
        have r0 : w9.cell? ⟨b3, 0, none⟩ = some (.int .i64 (z - 200)) := F9.out.cell 0
        have r1 : w9.cell? ⟨b3, 1, none⟩ = some (.int .i64 (u - 200)) := F9.out.cell 1
        have g0 := F9.out.frozen 0
        have g1 := F9.out.frozen 1
        have F10 := Lib.hid (F9.out.set 1 (.int .i64 u1))
        have C10 := Lib.hid (C9.out.other (b' := b3) HLE.out 1 (.int .i64 u1))
        have HC10 := Lib.hid (Cur.set HC9.out HPB.out (i := 1) (v := .int .i64 u1))
        clear F9 C9 HC9
        have c0 : (w9.setCell ⟨b3, 1, none⟩ (.int .i64 u1)).cell? ⟨w.heap.size, 0, none⟩ = some (.int .i64 0) := C10.out.cell 0
        have c1 : (w9.setCell ⟨b3, 1, none⟩ (.int .i64 u1)).cell? ⟨w.heap.size, 1, none⟩ = some (.int .i64 0) := C10.out.cell 1
        have f0 := C10.out.frozen 0
        have f1 := C10.out.frozen 1
        have q0 : (w9.setCell ⟨b3, 1, none⟩ (.int .i64 u1)).cell? ⟨b3, 0, none⟩ = some (.int .i64 (z - 200)) := F10.out.cell 0
        have q1 : (w9.setCell ⟨b3, 1, none⟩ (.int .i64 u1)).cell? ⟨b3, 1, none⟩ = some (.int .i64 u1) := F10.out.cell 1
        have HE := Lib.hid ((C10.out.set 0 (.int .i64 (z - 200))).set 1 (.int .i64 u1))
        have HB := Lib.hid (Cur.set (Cur.set HC10.out C10.out.2.2.1 (i := 0) (v := .int .i64 (z - 200))) C10.out.2.2.1 (i := 1) (v := .int .i64 u1))
        clear C10 F10 HC10
        go_wp2_with fail
        have hl := HE.out.load Try.underlying50 rfl (by kernel_rfl)
        refine bodyPost_ret (v := .agg #[.int .i64 (z - 200), .int .i64 u1]) ?_ rfl ⟨_, _, rfl, ⟨⟨by omega, by omega⟩, by omega, by omega⟩, HB.out.more (by omega), HE.out.1⟩
        rw [ats.results_cell1 rfl]
        simp [asAddr, Result.andThen, hl]
    · go_wp2_with fail
      refine (among_new (-201) 201 p (m + 12) 2 [201, -201] _ w7 HC7.out (by omega) (by omega) (by omega) rfl rfl (by decide)).mono ?_
      rintro e w8 ⟨z1, rfl, z10, z11, hc8, hg8⟩
      have C8 := Lib.hid (C7.out.old hg8)
      have F8 := Lib.hid (F7.out.old hg8)
      have HC8 := Lib.hid hc8
      clear hc8 hg8 C7 F7 HC7
      have q0 : w8.cell? ⟨b3, 0, none⟩ = some (.int .i64 (z - 200)) := F8.out.cell 0
      have q1 : w8.cell? ⟨b3, 1, none⟩ = some (.int .i64 (u - 200)) := F8.out.cell 1
      have g0 := F8.out.frozen 0
      have g1 := F8.out.frozen 1
      have F9 := Lib.hid (F8.out.set 0 (.int .i64 z1))
      have C9 := Lib.hid (C8.out.other (b' := b3) HLE.out 0 (.int .i64 z1))
      have HC9 := Lib.hid (Cur.set HC8.out HPB.out (i := 0) (v := .int .i64 z1))
      clear F8 C8 HC8
      go_wp2_with fail
      generalize (w8.setCell ⟨b3, 0, none⟩ (.int .i64 z1)) = w9 at *
      clear q0 q1 g0 g1
      refine (one p (m + 14) 30 w9 HC9.out (by omega) (by omega) (by omega)).mono ?_
      rintro e w10 ⟨i2, rfl, hc10, hg10⟩
      have C10 := Lib.hid (C9.out.old hg10)
      have F10 := Lib.hid (F9.out.old hg10)
      have HC10 := Lib.hid hc10
      clear hc10 hg10 C9 F9 HC9
      cases i2
      · have c0 : w10.cell? ⟨w.heap.size, 0, none⟩ = some (.int .i64 0) := C10.out.cell 0
        have c1 : w10.cell? ⟨w.heap.size, 1, none⟩ = some (.int .i64 0) := C10.out.cell 1
        have f0 := C10.out.frozen 0
        have f1 := C10.out.frozen 1
        have q0 : w10.cell? ⟨b3, 0, none⟩ = some (.int .i64 z1) := F10.out.cell 0
        have q1 : w10.cell? ⟨b3, 1, none⟩ = some (.int .i64 (u - 200)) := F10.out.cell 1
        have HE := Lib.hid ((C10.out.set 0 (.int .i64 z1)).set 1 (.int .i64 (u - 200)))
        have HB := Lib.hid (Cur.set (Cur.set HC10.out C10.out.2.2.1 (i := 0) (v := .int .i64 z1)) C10.out.2.2.1 (i := 1) (v := .int .i64 (u - 200)))
        clear C10 F10 HC10
        go_wp2_with fail
        have hl := HE.out.load Try.underlying50 rfl (by kernel_rfl)
        refine bodyPost_ret (v := .agg #[.int .i64 z1, .int .i64 (u - 200)]) ?_ rfl ⟨_, _, rfl, ⟨⟨by omega, by omega⟩, by omega, by omega⟩, HB.out.more (by omega), HE.out.1⟩
        rw [ats.results_cell1 rfl]
        simp [asAddr, Result.andThen, hl]
      · go_wp2_with fail
        refine (among_new (-201) 201 p (m + 16) 2 [201, -201] _ w10 HC10.out (by omega) (by omega) (by omega) rfl rfl (by decide)).mono ?_
        rintro e w11 ⟨u1, rfl, u10, u11, hc11, hg11⟩
        have C11 := Lib.hid (C10.out.old hg11)
        have F11 := Lib.hid (F10.out.old hg11)
        have HC11 := Lib.hid hc11
        clear hc11 hg11 C10 F10 HC10
        have r0 : w11.cell? ⟨b3, 0, none⟩ = some (.int .i64 z1) := F11.out.cell 0
        have r1 : w11.cell? ⟨b3, 1, none⟩ = some (.int .i64 (u - 200)) := F11.out.cell 1
        have g0 := F11.out.frozen 0
        have g1 := F11.out.frozen 1
        have F12 := Lib.hid (F11.out.set 1 (.int .i64 u1))
        have C12 := Lib.hid (C11.out.other (b' := b3) HLE.out 1 (.int .i64 u1))
        have HC12 := Lib.hid (Cur.set HC11.out HPB.out (i := 1) (v := .int .i64 u1))
        clear F11 C11 HC11
        have c0 : (w11.setCell ⟨b3, 1, none⟩ (.int .i64 u1)).cell? ⟨w.heap.size, 0, none⟩ = some (.int .i64 0) := C12.out.cell 0
        have c1 : (w11.setCell ⟨b3, 1, none⟩ (.int .i64 u1)).cell? ⟨w.heap.size, 1, none⟩ = some (.int .i64 0) := C12.out.cell 1
        have f0 := C12.out.frozen 0
        have f1 := C12.out.frozen 1
        have q0 : (w11.setCell ⟨b3, 1, none⟩ (.int .i64 u1)).cell? ⟨b3, 0, none⟩ = some (.int .i64 z1) := F12.out.cell 0
        have q1 : (w11.setCell ⟨b3, 1, none⟩ (.int .i64 u1)).cell? ⟨b3, 1, none⟩ = some (.int .i64 u1) := F12.out.cell 1
        have HE := Lib.hid ((C12.out.set 0 (.int .i64 z1)).set 1 (.int .i64 u1))
        have HB := Lib.hid (Cur.set (Cur.set HC12.out C12.out.2.2.1 (i := 0) (v := .int .i64 z1)) C12.out.2.2.1 (i := 1) (v := .int .i64 u1))
        clear C12 F12 HC12
        go_wp2_with fail
        have hl := HE.out.load Try.underlying50 rfl (by kernel_rfl)
        refine bodyPost_ret (v := .agg #[.int .i64 z1, .int .i64 u1]) ?_ rfl ⟨_, _, rfl, ⟨⟨by omega, by omega⟩, by omega, by omega⟩, HB.out.more (by omega), HE.out.1⟩
        rw [ats.results_cell1 rfl]
        simp [asAddr, Result.andThen, hl]
end Go.Proofs.Ytglonedhoenkpaa.drawv8
