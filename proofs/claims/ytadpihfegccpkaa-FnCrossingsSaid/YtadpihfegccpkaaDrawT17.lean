/- spec's DrawIsValidSector, DrawDoubleArea, DrawTurnedSector. -/
import Derived.Test.YtadpihfegccpkaaDrawS17
namespace Go.Proofs.Ytadpihfegccpkaa.drawt17
open Go.RowKit Go.Proofs.Ytadpihfegccpkaa.cur Go.Proofs.Ytadpihfegccpkaa.atc Go.Proofs.Ytadpihfegccpkaa.ats Go.Proofs.Ytadpihfegccpkaa.ints Go.Proofs.Ytadpihfegccpkaa.lst Go.Proofs.Ytadpihfegccpkaa.scte Go.Proofs.Ytadpihfegccpkaa.draws17

/-- What a Draw of a sector returns. -/
def SecD (w : World) (e : Ending) (w' : World) : Prop := ∃ (d : Int) (A : Option Addr) (n c : Nat) (zs : List Int), e = .returned (.agg #[.int .i64 d, .slice A n c]) ∧ w'.ownsRow w.heap.size 28 2 (.slice A n c) n (cellsI zs) ∧ n ≤ 6 ∧ n ≤ c ∧ Sd n zs ∧ Below w.heap.size w w'
theorem bytes_al {w : World} {A : Option Addr} {n : Nat} (o : Obj) (h : Bytes w w.heap.size A n) : Bytes (w.alloc o) (w.alloc o).heap.size A n := by
  intro h0
  obtain ⟨b, o', e, hb, hc⟩ := h h0
  exact ⟨b, o', e, by rw [World.size_alloc]; omega, fun j hj => by
    obtain ⟨x, hx⟩ := hc j hj
    exact ⟨x, (World.cell?_alloc_lt w _ ⟨b, o' + j, none⟩ hb).trans hx.1, hx.2⟩⟩
theorem at_gr {T : TypeId} {cs : Array Value} {w W W' : World} {b p : Nat} (h : ats.AtS T cs w W b) (hg : W.grownBy W' (some p)) (hne : b ≠ p) (hp : w.heap.size ≤ p) : ats.AtS T cs w W' b :=
  ⟨h.1.grown hg h.1.size (fun g e => by injection e with e; omega), h.2.1, Nat.lt_of_lt_of_le h.2.2.1 hg.size, (hg.block _ h.2.2.1 (fun e => by injection e with e; exact hne e)).trans h.2.2.2⟩
theorem own_nc {W : World} {B n c : Nat} {A : Option Addr} {xs : List Value} (h : W.ownsRow B 28 2 (.slice A n c) n xs) : n ≤ c := by
  rcases h.2 with ⟨h', h0⟩ | ⟨g', cap', cur, h', hb, hg, hnc, hcm, hcs, htake⟩
  · omega
  · simp only [Value.slice.injEq] at h'
    omega
set_option maxRecDepth 100000 in
set_option maxHeartbeats 2000000 in
theorem validSector (A : Option Addr) (n c0 : Nat) (w : World) (hn : n ≤ 65536) (h : Bytes w w.heap.size A n) :
    Calls Try.prog 80 #[.slice A n c0] w (SecD w) := by
  have R0 := Lib.hid ((newS 26 #[.int .i64 0, .slice none 0 0] w).alloc (.cells #[.slice A n c0, .int .i64 0, .int .u64 0] 78))
  have hc := new_cur c0 (by omega) (bytes_al (.cells #[.int .i64 0, .slice none 0 0] 26) h)
  rw [World.size_alloc] at hc
  have HC0 := Lib.hid hc
  have hpw : w.heap.size ≤ w.heap.size + 1 := by omega
  have hpR : w.heap.size ≠ w.heap.size + 1 := by omega
  have HB := Lib.hid R0.out.2.2.1
  clear h hc
  go_enter Try.func80, Try.ntmps80
  go_wp2_with fail
  generalize (w.alloc (.cells #[.int .i64 0, .slice none 0 0] 26)).alloc (.cells #[.slice A n c0, .int .i64 0, .int .u64 0] 78) = W1 at *
  refine (sector _ 0 W1 HC0.out (by omega)).mono ?_
  rintro e w1 ⟨d, v, k, zs, rfl, ho, hk, hsd, hcN, hgN⟩
  obtain ⟨A1, c1, rfl⟩ := own_sliceZ ho
  have R1 := Lib.hid (at_gr R0.out hgN hpR hpw)
  have OW := Lib.hid ho
  have HSD := Lib.hid hsd
  clear R0 HC0 hcN hgN ho hsd
  have r0_ : w1.cell? ⟨w.heap.size, 0, none⟩ = some (.int .i64 0) := R1.out.cell 0
  have r1_ : w1.cell? ⟨w.heap.size, 1, none⟩ = some (.slice none 0 0) := R1.out.cell 1
  have rf0_ := R1.out.frozen 0
  have rf1_ := R1.out.frozen 1
  have HE := Lib.hid ((R1.out.set 0 (.int .i64 d)).set 1 (.slice A1 k c1))
  have OE := Lib.hid (own_kept (own_kept OW.out (grown_set (grown_refl _ (some w.heap.size)) 0 (.int .i64 d)) (fun g e => by injection e with e; have := HB.out; omega)) (grown_set (grown_refl _ (some w.heap.size)) 1 (.slice A1 k c1)) (fun g e => by injection e with e; have := HB.out; omega))
  have NC := Lib.hid (own_nc OW.out)
  clear R1 OW
  go_wp2_with fail
  have hl := HE.out.load Try.underlying26 rfl (by kernel_rfl)
  refine bodyPost_ret (v := .agg #[.int .i64 d, .slice A1 k c1]) ?_ rfl ⟨_, _, _, _, _, rfl, own_.own_base OE.out (Nat.le_of_lt HB.out), hk, NC.out, HSD.out, HE.out.1⟩
  rw [results_cell1 rfl]
  simp [asAddr, Result.andThen, hl]
set_option maxRecDepth 100000 in
set_option maxHeartbeats 2000000 in
theorem doubleArea (A : Option Addr) (n c0 : Nat) (w : World) (hn : n ≤ 65536) (h : Bytes w w.heap.size A n) :
    Calls Try.prog 36 #[.slice A n c0] w (SecD w) := by
  have R0 := Lib.hid (newS 26 #[.int .i64 0, .slice none 0 0] w)
  have D := Lib.hid (validSector A n c0 (w.alloc (.cells #[.int .i64 0, .slice none 0 0] 26)) hn (bytes_al (.cells #[.int .i64 0, .slice none 0 0] 26) h))
  have HB := Lib.hid R0.out.2.2.1
  clear h
  go_enter Try.func36, Try.ntmps36
  go_wp2_with fail
  generalize w.alloc (.cells #[.int .i64 0, .slice none 0 0] 26) = W1 at *
  refine D.out.mono ?_
  rintro e w1 ⟨d, A1, k, c1, zs, rfl, ho, hk, -, hsd, hb⟩
  have R1 := Lib.hid (R0.out.old hb)
  have OW := Lib.hid ho
  have HSD := Lib.hid hsd
  clear R0 D hb ho hsd
  have r0_ : w1.cell? ⟨w.heap.size, 0, none⟩ = some (.int .i64 0) := R1.out.cell 0
  have r1_ : w1.cell? ⟨w.heap.size, 1, none⟩ = some (.slice none 0 0) := R1.out.cell 1
  have rf0_ := R1.out.frozen 0
  have rf1_ := R1.out.frozen 1
  have HE := Lib.hid ((R1.out.set 0 (.int .i64 d)).set 1 (.slice A1 k c1))
  have OE := Lib.hid (own_kept (own_kept OW.out (grown_set (grown_refl _ (some w.heap.size)) 0 (.int .i64 d)) (fun g e => by injection e with e; have := HB.out; omega)) (grown_set (grown_refl _ (some w.heap.size)) 1 (.slice A1 k c1)) (fun g e => by injection e with e; have := HB.out; omega))
  have NC := Lib.hid (own_nc OW.out)
  clear R1 OW
  go_wp2_with fail
  have hl := HE.out.load Try.underlying26 rfl (by kernel_rfl)
  refine bodyPost_ret (v := .agg #[.int .i64 d, .slice A1 k c1]) ?_ rfl ⟨_, _, _, _, _, rfl, own_.own_base OE.out (Nat.le_of_lt HB.out), hk, NC.out, HSD.out, HE.out.1⟩
  rw [results_cell1 rfl]
  simp [asAddr, Result.andThen, hl]
set_option maxRecDepth 100000 in
set_option maxHeartbeats 2000000 in
theorem turnedSector (A : Option Addr) (n c0 : Nat) (w : World) (hn : n ≤ 65536) (h : Bytes w w.heap.size A n) :
    Calls Try.prog 38 #[.slice A n c0] w (SecD w) := by
  have R0 := Lib.hid (newS 26 #[.int .i64 0, .slice none 0 0] w)
  have D := Lib.hid (validSector A n c0 (w.alloc (.cells #[.int .i64 0, .slice none 0 0] 26)) hn (bytes_al (.cells #[.int .i64 0, .slice none 0 0] 26) h))
  have HB := Lib.hid R0.out.2.2.1
  clear h
  go_enter Try.func38, Try.ntmps38
  go_wp2_with fail
  generalize w.alloc (.cells #[.int .i64 0, .slice none 0 0] 26) = W1 at *
  refine D.out.mono ?_
  rintro e w1 ⟨d, A1, k, c1, zs, rfl, ho, hk, -, hsd, hb⟩
  have R1 := Lib.hid (R0.out.old hb)
  have OW := Lib.hid ho
  have HSD := Lib.hid hsd
  clear R0 D hb ho hsd
  have r0_ : w1.cell? ⟨w.heap.size, 0, none⟩ = some (.int .i64 0) := R1.out.cell 0
  have r1_ : w1.cell? ⟨w.heap.size, 1, none⟩ = some (.slice none 0 0) := R1.out.cell 1
  have rf0_ := R1.out.frozen 0
  have rf1_ := R1.out.frozen 1
  have HE := Lib.hid ((R1.out.set 0 (.int .i64 d)).set 1 (.slice A1 k c1))
  have OE := Lib.hid (own_kept (own_kept OW.out (grown_set (grown_refl _ (some w.heap.size)) 0 (.int .i64 d)) (fun g e => by injection e with e; have := HB.out; omega)) (grown_set (grown_refl _ (some w.heap.size)) 1 (.slice A1 k c1)) (fun g e => by injection e with e; have := HB.out; omega))
  have NC := Lib.hid (own_nc OW.out)
  clear R1 OW
  go_wp2_with fail
  have hl := HE.out.load Try.underlying26 rfl (by kernel_rfl)
  refine bodyPost_ret (v := .agg #[.int .i64 d, .slice A1 k c1]) ?_ rfl ⟨_, _, _, _, _, rfl, own_.own_base OE.out (Nat.le_of_lt HB.out), hk, NC.out, HSD.out, HE.out.1⟩
  rw [results_cell1 rfl]
  simp [asAddr, Result.andThen, hl]
end Go.Proofs.Ytadpihfegccpkaa.drawt17
