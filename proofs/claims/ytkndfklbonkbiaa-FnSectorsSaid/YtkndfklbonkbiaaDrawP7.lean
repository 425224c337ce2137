/- spec's draws for chapter 7's laws: place, anyPlace, report. -/
import Derived.Test.YtkndfklbonkbiaaAtC
import Derived.Test.YtkndfklbonkbiaaPosT
namespace Go.Proofs.Ytkndfklbonkbiaa.drawp7
open Go.RowKit Go.Proofs.Ytkndfklbonkbiaa.cur Go.Proofs.Ytkndfklbonkbiaa.atc Go.Proofs.Ytkndfklbonkbiaa.pos Go.Proofs.Ytkndfklbonkbiaa.poss Go.Proofs.Ytkndfklbonkbiaa.post

/-- What a draw of a place, of a report returns. -/
def PlaceQ (Q : Int → Int → Prop) (p m : Nat) (w : World) (e : Ending) (w' : World) : Prop := ∃ x y, e = .returned (.agg #[.int .i64 x, .int .i64 y]) ∧ Q x y ∧ Cur w' p m ∧ w.grownBy w' (some p)
def ReportQ (p m : Nat) (w : World) (e : Ending) (w' : World) : Prop := ∃ o a b, e = .returned (.agg #[.bool o, .int .i64 a, .int .i64 b]) ∧ Cur w' p m ∧ w.grownBy w' (some p)
def Ok (x y : Int) : Prop := (0 ≤ x ∧ x ≤ 9899) ∧ 0 ≤ y ∧ y ≤ 9899
def Any (x y : Int) : Prop := (-1 ≤ x ∧ x ≤ 9900) ∧ 0 ≤ y ∧ y ≤ 9899
theorem Ok.any {x y : Int} (h : Ok x y) : Any x y := by obtain ⟨⟨_, _⟩, _, _⟩ := h; exact ⟨⟨by omega, by omega⟩, by omega, by omega⟩

set_option maxRecDepth 100000 in
set_option maxHeartbeats 2000000 in
theorem place (p m : Nat) (w : World) (h : Cur w p m) (hm : m ≤ 500000) :
    Calls Try.prog 110 #[.pointer (some ⟨p, 0, none⟩)] w (PlaceQ Ok p (m + 10) w) := by
  have hp := h.lt
  have C0 := Lib.hid (newC 31 #[.int .i64 0, .int .i64 0] hp)
  have HC0 := Lib.hid (Cur.alloc h (.cells #[.int .i64 0, .int .i64 0] 31))
  clear h
  go_enter Try.func110, Try.ntmps110
  go_wp2_with fail
  generalize w.alloc (.cells #[.int .i64 0, .int .i64 0] 31) = W at *
  refine (pick p m 250 W HC0.out (by omega) (by omega) (by omega)).mono ?_
  rintro e w1 ⟨x, rfl, x0, x1, hc1, hg1⟩
  have HC1 := Lib.hid hc1
  have C1 := Lib.hid (C0.out.old hg1)
  clear hc1 hg1 HC0 C0
  go_wp2_with fail
  refine (among_new 1 39 p (m + 2) 3 [1, 7, 39] _ w1 HC1.out (by omega) (by omega) (by omega) rfl rfl (by decide)).mono ?_
  rintro e w2 ⟨y, rfl, y0, y1, hc2, hg2⟩
  have HC2 := Lib.hid hc2
  have C2 := Lib.hid (C1.out.old hg2)
  have xy0 : 0 ≤ x * y := Int.mul_nonneg x0 (by omega)
  have xy1 : x * y ≤ 9899 := Int.le_trans (Int.mul_le_mul (show x ≤ 249 by omega) y1 (by omega) (by omega)) (by omega)
  have e2 : IntKind.i64.wrap (x * y) = x * y := IntWalk.i64_in _ (by omega)
  clear hc2 hg2 HC1 C1
  go_wp2_with fail
  generalize x * y = t at *
  refine (pick p (m + 4) 250 w2 HC2.out (by omega) (by omega) (by omega)).mono ?_
  rintro e w3 ⟨z, rfl, z0, z1, hc3, hg3⟩
  have HC3 := Lib.hid hc3
  have C3 := Lib.hid (C2.out.old hg3)
  clear hc3 hg3 HC2 C2
  go_wp2_with fail
  refine (among_new 1 39 p (m + 6) 3 [1, 7, 39] _ w3 HC3.out (by omega) (by omega) (by omega) rfl rfl (by decide)).mono ?_
  rintro e w4 ⟨u, rfl, u0, u1, hc4, hg4⟩
  have HC4 := Lib.hid hc4
  have C4 := Lib.hid (C3.out.old hg4)
  have zu0 : 0 ≤ z * u := Int.mul_nonneg z0 (by omega)
  have zu1 : z * u ≤ 9899 := Int.le_trans (Int.mul_le_mul (show z ≤ 249 by omega) u1 (by omega) (by omega)) (by omega)
  have e3 : IntKind.i64.wrap (z * u) = z * u := IntWalk.i64_in _ (by omega)
  have c0 : w4.cell? ⟨w.heap.size, 0, none⟩ = some (.int .i64 0) := C4.out.cell 0
  have c1 : w4.cell? ⟨w.heap.size, 1, none⟩ = some (.int .i64 0) := C4.out.cell 1
  have f0 : w4.frozen? ⟨w.heap.size, 0, none⟩ = false := C4.out.frozen 0
  have f1 : w4.frozen? ⟨w.heap.size, 1, none⟩ = false := C4.out.frozen 1
  clear hc4 hg4 HC3 C3
  have e4 : wrap64 (z * u) = z * u := IntWalk.wrap64_in _ ⟨by omega, by omega⟩
  obtain ⟨s, hs⟩ : ∃ s, z * u = s := ⟨_, rfl⟩
  rw [hs] at e3 e4 zu0 zu1
  have HE := Lib.hid ((C4.out.set 0 (.int .i64 t)).set 1 (.int .i64 s))
  have HB := Lib.hid (Cur.set (Cur.set HC4.out C4.out.2.2.1 (i := 0) (v := .int .i64 t)) C4.out.2.2.1 (i := 1) (v := .int .i64 s))
  have HV := Lib.hid (show Ok t s from ⟨⟨xy0, xy1⟩, zu0, zu1⟩)
  clear C4
  go_wp2_with fail
  have hl := HE.out.load Try.underlying31 rfl (by kernel_rfl)
  refine bodyPost_ret (v := .agg #[.int .i64 t, .int .i64 s]) ?_ rfl ⟨_, _, rfl, HV.out, HB.out.more (by omega), HE.out.1⟩
  rw [ats.results_cell1 rfl]
  simp [asAddr, Result.andThen, hl]

set_option maxRecDepth 100000 in
set_option maxHeartbeats 2000000 in
theorem anyPlace (p m : Nat) (w : World) (h : Cur w p m) (hm : m ≤ 400000) :
    Calls Try.prog 95 #[.pointer (some ⟨p, 0, none⟩)] w (PlaceQ Any p (m + 20) w) := by
  have hp := h.lt
  have C0 := Lib.hid (newC 31 #[.int .i64 0, .int .i64 0] hp)
  have HC0 := Lib.hid (Cur.alloc h (.cells #[.int .i64 0, .int .i64 0] 31))
  clear h
  go_enter Try.func95, Try.ntmps95
  go_wp2_with fail
  generalize w.alloc (.cells #[.int .i64 0, .int .i64 0] 31) = W at *
  refine (place p m W HC0.out (by omega)).mono ?_
  rintro e w1 ⟨x, y, rfl, hv, hc1, hg1⟩
  have C1 := Lib.hid ((C0.out.old hg1).alloc (.cells #[.int .i64 x, .int .i64 y] 31))
  have F1 := Lib.hid ((C0.out.old hg1).next 31 #[.int .i64 x, .int .i64 y])
  have HLE := Lib.hid (show w.heap.size < w1.heap.size from (C0.out.old hg1).2.2.2.1)
  have HC1 := Lib.hid (Cur.alloc hc1 (.cells #[.int .i64 x, .int .i64 y] 31))
  have HV := Lib.hid hv
  clear hv hc1 hg1 HC0 C0
  go_wp2_with fail
  generalize w1.alloc (.cells #[.int .i64 x, .int .i64 y] 31) = W1 at *
  generalize w1.heap.size = b1 at *
  refine (one p (m + 10) 16 W1 HC1.out (by omega) (by omega) (by omega)).mono ?_
  rintro e w2 ⟨i, rfl, hc2, hg2⟩
  have C2 := Lib.hid (C1.out.old hg2)
  have F2 := Lib.hid (F1.out.old hg2)
  have HC2 := Lib.hid hc2
  clear hc2 hg2 C1 F1 HC1
  cases i
  · have c0 : w2.cell? ⟨w.heap.size, 0, none⟩ = some (.int .i64 0) := C2.out.cell 0
    have c1 : w2.cell? ⟨w.heap.size, 1, none⟩ = some (.int .i64 0) := C2.out.cell 1
    have f0 : w2.frozen? ⟨w.heap.size, 0, none⟩ = false := C2.out.frozen 0
    have f1 : w2.frozen? ⟨w.heap.size, 1, none⟩ = false := C2.out.frozen 1
    have q0 : w2.cell? ⟨b1, 0, none⟩ = some (.int .i64 x) := F2.out.cell 0
    have q1 : w2.cell? ⟨b1, 1, none⟩ = some (.int .i64 y) := F2.out.cell 1
    have HE := Lib.hid ((C2.out.set 0 (.int .i64 x)).set 1 (.int .i64 y))
    have HB := Lib.hid (Cur.set (Cur.set HC2.out C2.out.2.2.1 (i := 0) (v := .int .i64 x)) C2.out.2.2.1 (i := 1) (v := .int .i64 y))
    clear C2 F2 HC2
    go_wp2_with fail
    have hl := HE.out.load Try.underlying31 rfl (by kernel_rfl)
    refine bodyPost_ret (v := .agg #[.int .i64 x, .int .i64 y]) ?_ rfl ⟨_, _, rfl, HV.out.any, HB.out.more (by omega), HE.out.1⟩
    rw [ats.results_cell1 rfl]
    simp [asAddr, Result.andThen, hl]
  · go_wp2_with fail
    refine (among_new (-1) 9900 p (m + 12) 4 [-1, 9899, 9900, 0] _ w2 HC2.out (by omega) (by omega) (by omega) rfl rfl (by decide)).mono ?_
    rintro e w3 ⟨z, rfl, z0, z1, hc3, hg3⟩
    have C3 := C2.out.old hg3
    have F3 := F2.out.old hg3
    have y0 : w3.cell? ⟨b1, 0, none⟩ = some (.int .i64 x) := F3.cell 0
    have y1 : w3.frozen? ⟨b1, 0, none⟩ = false := F3.frozen 0
    have C4 := Lib.hid (C3.other (b' := b1) HLE.out 0 (.int .i64 z))
    have F4 := Lib.hid (F3.set 0 (.int .i64 z))
    have HC4 := Lib.hid (Cur.set hc3 F3.2.2.1 (i := 0) (v := .int .i64 z))
    have c0 : (w3.setCell ⟨b1, 0, none⟩ (.int .i64 z)).cell? ⟨w.heap.size, 0, none⟩ = some (.int .i64 0) := C4.out.cell 0
    have c1 : (w3.setCell ⟨b1, 0, none⟩ (.int .i64 z)).cell? ⟨w.heap.size, 1, none⟩ = some (.int .i64 0) := C4.out.cell 1
    have f0 : (w3.setCell ⟨b1, 0, none⟩ (.int .i64 z)).frozen? ⟨w.heap.size, 0, none⟩ = false := C4.out.frozen 0
    have f1 : (w3.setCell ⟨b1, 0, none⟩ (.int .i64 z)).frozen? ⟨w.heap.size, 1, none⟩ = false := C4.out.frozen 1
    have q0 : (w3.setCell ⟨b1, 0, none⟩ (.int .i64 z)).cell? ⟨b1, 0, none⟩ = some (.int .i64 z) := F4.out.cell 0
    have q1 : (w3.setCell ⟨b1, 0, none⟩ (.int .i64 z)).cell? ⟨b1, 1, none⟩ = some (.int .i64 y) := F4.out.cell 1
    have HE := Lib.hid ((C4.out.set 0 (.int .i64 z)).set 1 (.int .i64 y))
    have HB := Lib.hid (Cur.set (Cur.set HC4.out C4.out.2.2.1 (i := 0) (v := .int .i64 z)) C4.out.2.2.1 (i := 1) (v := .int .i64 y))
    clear hc3 hg3 C2 F2 HC2 C3 F3 C4 F4 HC4
    go_wp2_with fail
    have hl := HE.out.load Try.underlying31 rfl (by kernel_rfl)
    refine bodyPost_ret (v := .agg #[.int .i64 z, .int .i64 y]) ?_ rfl ⟨_, _, rfl, ⟨⟨z0, z1⟩, HV.out.2⟩, HB.out.more (by omega), HE.out.1⟩
    rw [ats.results_cell1 rfl]
    simp [asAddr, Result.andThen, hl]

end Go.Proofs.Ytkndfklbonkbiaa.drawp7
