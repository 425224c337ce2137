/- The draws of spec for chapter 5's laws: frames. -/
import Derived.Test.YtpjpdfannnafbaaDoorCurInt
import Derived.Test.YtpjpdfannnafbaaDoorCurBits
import Derived.Test.YtpjpdfannnafbaaDoorAtS
import Derived.Test.YtpjpdfannnafbaaDoorFrmS
import Derived.Deep.Heap
namespace Go.Proofs.YtpjpdfannnafbaaDoor.drawv
open Go.RowKit Go.Proofs.YtpjpdfannnafbaaDoor.cur Go.Proofs.YtpjpdfannnafbaaDoor.frm

/-- A struct in a block of its own, above the reader's. -/
def AtC (T : TypeId) (cs : Array Value) (p : Nat) (w W : World) (b : Nat) : Prop := w.grownBy W (some p) ∧ w.heap.size ≤ b ∧ p < b ∧ b < W.heap.size ∧ W.heap[b]? = some (.cells cs T (0, 0))
theorem newC (T : TypeId) (cs : Array Value) {p : Nat} {w : World} (hp : p < w.heap.size) : AtC T cs p w (w.alloc (.cells cs T)) w.heap.size :=
  ⟨grown_alloc _ _, Nat.le_refl _, hp, by rw [World.size_alloc]; omega, heap_alloc_new w _⟩
theorem AtC.old {T : TypeId} {cs : Array Value} {p : Nat} {w W : World} {b : Nat} (h : AtC T cs p w W b) {W' : World} (hg : W.grownBy W' (some p)) : AtC T cs p w W' b :=
  ⟨grown_trans h.1 hg, h.2.1, h.2.2.1, Nat.lt_of_lt_of_le h.2.2.2.1 hg.size, (hg.block b h.2.2.2.1 (fun e => by have := h.2.2.1; injection e; omega)).trans h.2.2.2.2⟩
theorem AtC.next {T : TypeId} {cs : Array Value} {p : Nat} {w W : World} {b : Nat} (h : AtC T cs p w W b) (T' : TypeId) (cs' : Array Value) : AtC T' cs' p w (W.alloc (.cells cs' T')) W.heap.size :=
  ⟨grown_trans h.1 (grown_alloc _ _), h.1.size, by have := h.2.2.1; have := h.2.2.2.1; omega, by rw [World.size_alloc]; omega, heap_alloc_new W _⟩
theorem AtC.alloc {T : TypeId} {cs : Array Value} {p : Nat} {w W : World} {b : Nat} (h : AtC T cs p w W b) (o : Obj) : AtC T cs p w (W.alloc o) b := h.old (grown_alloc _ _)
theorem AtC.cell {T : TypeId} {cs : Array Value} {p : Nat} {w W : World} {b : Nat} (h : AtC T cs p w W b) (i : Nat) : W.cell? ⟨b, i, none⟩ = cs[i]? := cell_of_row _ _ i cs T (0, 0) h.2.2.2.2
theorem AtC.frozen {T : TypeId} {cs : Array Value} {p : Nat} {w W : World} {b : Nat} (h : AtC T cs p w W b) (i : Nat) : W.frozen? ⟨b, i, none⟩ = false := by simp [World.frozen?, h.2.2.2.2]
theorem AtC.set {T : TypeId} {cs : Array Value} {p : Nat} {w W : World} {b : Nat} (h : AtC T cs p w W b) (i : Nat) (v : Value) : AtC T (cs.setIfInBounds i v) p w (W.setCell ⟨b, i, none⟩ v) b := by
  have hh := heap_setCell_same _ b i _ _ v h.2.2.2.2
  refine ⟨⟨h.1.os, h.1.tape, h.1.output, ?_, fun k hk hne => ?_⟩, h.2.1, h.2.2.1, (Array.getElem?_eq_some_iff.1 hh).1, hh⟩
  · have := h.1.size
    simpa [World.setCell] using this
  · have hkb : k ≠ b := by have := h.2.1; omega
    exact (Go.Deep.blk_setCell_other W ⟨b, i, none⟩ v k hkb).trans (h.1.block k hk hne)
theorem AtC.other {T : TypeId} {cs : Array Value} {p : Nat} {w W : World} {b b' : Nat} (h : AtC T cs p w W b) (hw : b < b') (i : Nat) (v : Value) : AtC T cs p w (W.setCell ⟨b', i, none⟩ v) b := by
  have hle := h.2.1
  refine ⟨⟨h.1.os, h.1.tape, h.1.output, ?_, fun k hk hne => ?_⟩, h.2.1, h.2.2.1, ?_, (Go.Deep.blk_setCell_other W ⟨b', i, none⟩ v b (by show b ≠ b'; omega)).trans h.2.2.2.2⟩
  · have := h.1.size
    simpa [World.setCell] using this
  · exact (Go.Deep.blk_setCell_other W ⟨b', i, none⟩ v k (by show k ≠ b'; omega)).trans (h.1.block k hk hne)
  · have := h.2.2.2.1
    simpa [World.setCell] using this
theorem AtC.load {T : TypeId} {d : TypeDesc} {cs : Array Value} {p : Nat} {w W : World} {b : Nat} (h : AtC T cs p w W b) (hu : Tryd.prog.underlying T = some d) (hd : d.isRow = true) (hi : (Tryd.prog.info? T).map (·.size) = some cs.size) : (loadVar T ⟨b, 0, none⟩).run Tryd.prog W = .ok (.agg cs) W := by
  have hr : W.rangeAt b 0 cs.toList := fun j v hv => by
    rw [Nat.zero_add, cell_of_row _ _ j _ _ (0, 0) h.2.2.2.2]
    simpa using hv
  have := run_loadVar_mid W b 0 T cs.toList d hr hu hd (by rw [Array.length_toList]; exact hi)
  rwa [Array.toArray_toList] at this

theorem Cur.stored3 {w : World} {p m b : Nat} (h : Cur w p m) (hb : p < b) (x y z : Value) : Cur (((w.setCell ⟨b, 0, none⟩ x).setCell ⟨b, 1, none⟩ y).setCell ⟨b, 2, none⟩ z) p m :=
  h.keep ((((Below.refl (p + 1) w).setCell (p := ⟨b, 0, none⟩) hb x).setCell (p := ⟨b, 1, none⟩) hb y).setCell (p := ⟨b, 2, none⟩) hb z)
/-- What a draw of a frame returns. -/
def FrameQ (Q : Int → Int → Int → Prop) (p m : Nat) (w : World) (e : Ending) (w' : World) : Prop := ∃ K A D, e = .returned (.agg #[.int .i64 K, .int .i64 A, .int .i64 D]) ∧ Q K A D ∧ Cur w' p m ∧ w.grownBy w' (some p)
def Valid (K A D : Int) : Prop := (1 ≤ K ∧ K ≤ 4) ∧ (1 ≤ A ∧ A ≤ 65535) ∧ 0 ≤ D ∧ D ≤ 16777215

set_option maxRecDepth 100000 in
set_option maxHeartbeats 2000000 in
theorem frame (p m : Nat) (w : World) (h : Cur w p m) (hm : m ≤ 500000) :
    Calls Tryd.prog 39 #[.pointer (some ⟨p, 0, none⟩)] w (FrameQ Valid p (m + 20) w) := by
  have hp := h.lt
  have C0 := Lib.hid (newC 25 #[.int .i64 0, .int .i64 0, .int .i64 0] hp)
  have HC0 := Lib.hid (h.keep ((Below.refl (p + 1) w).alloc (by omega) (.cells #[.int .i64 0, .int .i64 0, .int .i64 0] 25)))
  clear h
  go_enter Tryd.func39, Tryd.ntmps39
  go_wp2_with fail
  generalize w.alloc (.cells #[.int .i64 0, .int .i64 0, .int .i64 0] 25) = W at *
  refine (pick p m 4 W HC0.out (by omega) (by omega) (by omega)).mono ?_
  rintro e w1 ⟨k, rfl, k0, k1, hc1, hg1⟩
  have HC1 := Lib.hid hc1
  have C1 := Lib.hid (C0.out.old hg1)
  clear hc1 hg1 HC0 C0
  go_wp2_with fail
  refine (among_new 1 65535 p (m + 2) 5 [1, 2, 255, 4660, 65535] _ w1 HC1.out (by omega) (by omega) (by omega) rfl rfl (by decide)).mono ?_
  rintro e w2 ⟨a, rfl, a0, a1, hc2, hg2⟩
  have HC2 := Lib.hid hc2
  have C2 := Lib.hid (C1.out.old hg2)
  clear hc2 hg2 HC1 C1
  go_wp2_with fail
  refine (pick p (m + 4) 256 w2 (HC2.out.more (by omega)) (by omega) (by omega) (by omega)).mono ?_
  rintro e w3 ⟨x, rfl, x0, x1, hc3, hg3⟩
  have HC3 := Lib.hid hc3
  have C3 := Lib.hid (C2.out.old hg3)
  clear hc3 hg3 HC2 C2
  go_wp2_with fail
  refine (among_new 1 65536 p (m + 6) 3 [1, 256, 65536] _ w3 (HC3.out.more (by omega)) (by omega) (by omega) (by omega) rfl rfl (by decide)).mono ?_
  rintro e w4 ⟨y, rfl, y0, y1, hc4, hg4⟩
  have HC4 := Lib.hid hc4
  have C4 := Lib.hid (C3.out.old hg4)
  have xy0 : 0 ≤ x * y := Int.mul_nonneg x0 (by omega)
  have xy1 : x * y ≤ 16711680 := Int.le_trans (Int.mul_le_mul (show x ≤ 255 by omega) y1 (by omega) (by omega)) (by omega)
  clear hc4 hg4 HC3 C3
  have e2 : IntKind.i64.wrap (x * y) = x * y := IntWalk.i64_in _ (by omega)
  go_wp2_with fail
  refine (pick p (m + 8) 2 w4 (HC4.out.more (by omega)) (by omega) (by omega) (by omega)).mono ?_
  rintro e w5 ⟨z, rfl, z0, z1, hc5, hg5⟩
  have HC5 := Lib.hid hc5
  have C5 := Lib.hid (C4.out.old hg5)
  have HV := Lib.hid (show Valid (1 + k) a (x * y + z) from ⟨⟨by omega, by omega⟩, ⟨a0, a1⟩, by omega, by omega⟩)
  have e1 : IntKind.i64.wrap (1 + k) = 1 + k := IntWalk.i64_in _ (by omega)
  have e3 : IntKind.i64.wrap (x * y + z) = x * y + z := IntWalk.i64_in _ (by omega)
  have c0 : w5.cell? ⟨w.heap.size, 0, none⟩ = some (.int .i64 0) := C5.out.cell 0
  have c1 : w5.cell? ⟨w.heap.size, 1, none⟩ = some (.int .i64 0) := C5.out.cell 1
  have c2 : w5.cell? ⟨w.heap.size, 2, none⟩ = some (.int .i64 0) := C5.out.cell 2
  have f0 : w5.frozen? ⟨w.heap.size, 0, none⟩ = false := C5.out.frozen 0
  have f1 : w5.frozen? ⟨w.heap.size, 1, none⟩ = false := C5.out.frozen 1
  have f2 : w5.frozen? ⟨w.heap.size, 2, none⟩ = false := C5.out.frozen 2
  have HE := Lib.hid (((C5.out.set 0 (.int .i64 (1 + k))).set 1 (.int .i64 a)).set 2 (.int .i64 (x * y + z)))
  have HB := Lib.hid (Cur.stored3 HC5.out C5.out.2.2.1 (.int .i64 (1 + k)) (.int .i64 a) (.int .i64 (x * y + z)))
  clear hc5 hg5 HC4 C4 C5
  generalize x * y = t at *
  go_wp2_with fail
  have hl := HE.out.load Tryd.underlying25 rfl (by kernel_rfl)
  refine bodyPost_ret (v := .agg #[.int .i64 (1 + k), .int .i64 a, .int .i64 (t + z)]) ?_ rfl ⟨_, _, _, rfl, HV.out, HB.out.more (by omega), HE.out.1⟩
  rw [ats.results_cell1 rfl]
  simp [asAddr, Result.andThen, hl]

def Near (K A D : Int) : Prop := (0 ≤ K ∧ K ≤ 5) ∧ (0 ≤ A ∧ A ≤ 65536) ∧ -1 ≤ D ∧ D ≤ 16777216
theorem Valid.near {K A D : Int} (h : Valid K A D) : Near K A D := by
  obtain ⟨⟨_, _⟩, ⟨_, _⟩, _, _⟩ := h
  exact ⟨⟨by omega, by omega⟩, ⟨by omega, by omega⟩, by omega, by omega⟩

set_option maxRecDepth 100000 in
set_option maxHeartbeats 4000000 in
theorem anyFrame (p m : Nat) (w : World) (h : Cur w p m) (hm : m ≤ 400000) :
    Calls Tryd.prog 43 #[.pointer (some ⟨p, 0, none⟩)] w (FrameQ Near p (m + 30) w) := by
  have hp := h.lt
  have C0 := Lib.hid (newC 25 #[.int .i64 0, .int .i64 0, .int .i64 0] hp)
  have HC0 := Lib.hid (h.keep ((Below.refl (p + 1) w).alloc (by omega) (.cells #[.int .i64 0, .int .i64 0, .int .i64 0] 25)))
  clear h
  go_enter Tryd.func43, Tryd.ntmps43
  go_wp2_with fail
  generalize w.alloc (.cells #[.int .i64 0, .int .i64 0, .int .i64 0] 25) = W at *
  refine (frame p m W HC0.out (by omega)).mono ?_
  rintro e w1 ⟨K, A, D, rfl, hv, hc1, hg1⟩
  have C1 := Lib.hid ((C0.out.old hg1).alloc (.cells #[.int .i64 K, .int .i64 A, .int .i64 D] 25))
  have F1 := Lib.hid ((C0.out.old hg1).next 25 #[.int .i64 K, .int .i64 A, .int .i64 D])
  have HV := Lib.hid hv.near
  have C0lt := (C0.out.old hg1).2.2.2.1
  have hlt := hc1.lt
  have HC1 := Lib.hid (hc1.keep ((Below.refl (p + 1) w1).alloc (by omega) (.cells #[.int .i64 K, .int .i64 A, .int .i64 D] 25)))
  clear hv hc1 hg1 HC0 C0
  have HLE := Lib.hid (show w.heap.size < w1.heap.size from C0lt)
  go_wp2_with fail
  generalize w1.alloc (.cells #[.int .i64 K, .int .i64 A, .int .i64 D] 25) = W1 at *
  refine (pick p (m + 20) 20 W1 HC1.out (by omega) (by omega) (by omega)).mono ?_
  rintro e w2 ⟨i, rfl, i0, i1, hc2, hg2⟩
  have C2 := Lib.hid (C1.out.old hg2)
  have F2 := Lib.hid (F1.out.old hg2)
  have HC2 := Lib.hid hc2
  clear hc2 hg2 C1 F1 HC1 hlt
  by_cases h0 : i = 0
  · subst h0
    go_wp2_with fail
    refine (among_new 0 5 p (m + 22) 3 [0, 5, 4] _ w2 HC2.out (by omega) (by omega) (by omega) rfl rfl (by decide)).mono ?_
    rintro e w3 ⟨x, rfl, x0, x1, hc3, hg3⟩
    have C3 := Lib.hid (C2.out.old hg3)
    have F3 := Lib.hid (F2.out.old hg3)
    have y0 : w3.cell? ⟨w1.heap.size, 0, none⟩ = some (.int .i64 K) := F3.out.cell 0
    have z0 : w3.frozen? ⟨w1.heap.size, 0, none⟩ = false := F3.out.frozen 0
    have C4 := Lib.hid (C3.out.other (b' := w1.heap.size) HLE.out 0 (.int .i64 x))
    have F4 := Lib.hid (F3.out.set 0 (.int .i64 x))
    have HC4 := Lib.hid (hc3.keep ((Below.refl (p + 1) w3).setCell (p := ⟨w1.heap.size, 0, none⟩) (by have := F3.out.2.2.1; exact this) (.int .i64 x)))
    clear hc3 hg3 C2 F2 HC2 C3 F3
    have c0 : (w3.setCell ⟨w1.heap.size, 0, none⟩ (.int .i64 x)).cell? ⟨w.heap.size, 0, none⟩ = some (.int .i64 0) := C4.out.cell 0
    have c1 : (w3.setCell ⟨w1.heap.size, 0, none⟩ (.int .i64 x)).cell? ⟨w.heap.size, 1, none⟩ = some (.int .i64 0) := C4.out.cell 1
    have c2 : (w3.setCell ⟨w1.heap.size, 0, none⟩ (.int .i64 x)).cell? ⟨w.heap.size, 2, none⟩ = some (.int .i64 0) := C4.out.cell 2
    have f0 : (w3.setCell ⟨w1.heap.size, 0, none⟩ (.int .i64 x)).frozen? ⟨w.heap.size, 0, none⟩ = false := C4.out.frozen 0
    have f1 : (w3.setCell ⟨w1.heap.size, 0, none⟩ (.int .i64 x)).frozen? ⟨w.heap.size, 1, none⟩ = false := C4.out.frozen 1
    have f2 : (w3.setCell ⟨w1.heap.size, 0, none⟩ (.int .i64 x)).frozen? ⟨w.heap.size, 2, none⟩ = false := C4.out.frozen 2
    have q0 : (w3.setCell ⟨w1.heap.size, 0, none⟩ (.int .i64 x)).cell? ⟨w1.heap.size, 0, none⟩ = some (.int .i64 x) := F4.out.cell 0
    have q1 : (w3.setCell ⟨w1.heap.size, 0, none⟩ (.int .i64 x)).cell? ⟨w1.heap.size, 1, none⟩ = some (.int .i64 A) := F4.out.cell 1
    have q2 : (w3.setCell ⟨w1.heap.size, 0, none⟩ (.int .i64 x)).cell? ⟨w1.heap.size, 2, none⟩ = some (.int .i64 D) := F4.out.cell 2
    have HE := Lib.hid (((C4.out.set 0 (.int .i64 x)).set 1 (.int .i64 A)).set 2 (.int .i64 D))
    have HB := Lib.hid (Cur.stored3 HC4.out C4.out.2.2.1 (.int .i64 x) (.int .i64 A) (.int .i64 D))
    clear C4 F4 HC4
    go_wp2_with fail
    have hl := HE.out.load Tryd.underlying25 rfl (by kernel_rfl)
    refine bodyPost_ret (v := .agg #[.int .i64 x, .int .i64 A, .int .i64 D]) ?_ rfl ⟨_, _, _, rfl, ⟨⟨by omega, by omega⟩, HV.out.2.1, HV.out.2.2⟩, HB.out.more (by omega), HE.out.1⟩
    rw [ats.results_cell1 rfl]
    simp [asAddr, Result.andThen, hl]
  · have d0 : (i == 0) = false := by simpa using h0
    by_cases h1 : i = 1
    · subst h1
      go_wp2_with fail
      refine (among_new 0 65536 p (m + 22) 3 [0, 65536, 65535] _ w2 HC2.out (by omega) (by omega) (by omega) rfl rfl (by decide)).mono ?_
      rintro e w3 ⟨x, rfl, x0, x1, hc3, hg3⟩
      have C3 := Lib.hid (C2.out.old hg3)
      have F3 := Lib.hid (F2.out.old hg3)
      have y1 : w3.cell? ⟨w1.heap.size, 1, none⟩ = some (.int .i64 A) := F3.out.cell 1
      have z1 : w3.frozen? ⟨w1.heap.size, 1, none⟩ = false := F3.out.frozen 1
      have C4 := Lib.hid (C3.out.other (b' := w1.heap.size) HLE.out 1 (.int .i64 x))
      have F4 := Lib.hid (F3.out.set 1 (.int .i64 x))
      have HC4 := Lib.hid (hc3.keep ((Below.refl (p + 1) w3).setCell (p := ⟨w1.heap.size, 1, none⟩) (by have := F3.out.2.2.1; exact this) (.int .i64 x)))
      clear hc3 hg3 C2 F2 HC2 C3 F3
      have c0 : (w3.setCell ⟨w1.heap.size, 1, none⟩ (.int .i64 x)).cell? ⟨w.heap.size, 0, none⟩ = some (.int .i64 0) := C4.out.cell 0
      have c1 : (w3.setCell ⟨w1.heap.size, 1, none⟩ (.int .i64 x)).cell? ⟨w.heap.size, 1, none⟩ = some (.int .i64 0) := C4.out.cell 1
      have c2 : (w3.setCell ⟨w1.heap.size, 1, none⟩ (.int .i64 x)).cell? ⟨w.heap.size, 2, none⟩ = some (.int .i64 0) := C4.out.cell 2
      have f0 : (w3.setCell ⟨w1.heap.size, 1, none⟩ (.int .i64 x)).frozen? ⟨w.heap.size, 0, none⟩ = false := C4.out.frozen 0
      have f1 : (w3.setCell ⟨w1.heap.size, 1, none⟩ (.int .i64 x)).frozen? ⟨w.heap.size, 1, none⟩ = false := C4.out.frozen 1
      have f2 : (w3.setCell ⟨w1.heap.size, 1, none⟩ (.int .i64 x)).frozen? ⟨w.heap.size, 2, none⟩ = false := C4.out.frozen 2
      have q0 : (w3.setCell ⟨w1.heap.size, 1, none⟩ (.int .i64 x)).cell? ⟨w1.heap.size, 0, none⟩ = some (.int .i64 K) := F4.out.cell 0
      have q1 : (w3.setCell ⟨w1.heap.size, 1, none⟩ (.int .i64 x)).cell? ⟨w1.heap.size, 1, none⟩ = some (.int .i64 x) := F4.out.cell 1
      have q2 : (w3.setCell ⟨w1.heap.size, 1, none⟩ (.int .i64 x)).cell? ⟨w1.heap.size, 2, none⟩ = some (.int .i64 D) := F4.out.cell 2
      have HE := Lib.hid (((C4.out.set 0 (.int .i64 K)).set 1 (.int .i64 x)).set 2 (.int .i64 D))
      have HB := Lib.hid (Cur.stored3 HC4.out C4.out.2.2.1 (.int .i64 K) (.int .i64 x) (.int .i64 D))
      clear C4 F4 HC4
      go_wp2_with fail
      have hl := HE.out.load Tryd.underlying25 rfl (by kernel_rfl)
      refine bodyPost_ret (v := .agg #[.int .i64 K, .int .i64 x, .int .i64 D]) ?_ rfl ⟨_, _, _, rfl, ⟨HV.out.1, ⟨by omega, by omega⟩, HV.out.2.2⟩, HB.out.more (by omega), HE.out.1⟩
      rw [ats.results_cell1 rfl]
      simp [asAddr, Result.andThen, hl]
    · have d1 : (i == 1) = false := by simpa using h1
      by_cases h2 : i = 2
      · subst h2
        go_wp2_with fail
        refine (among_new (-1) 16777216 p (m + 22) 3 [-1, 16777215, 16777216] _ w2 HC2.out (by omega) (by omega) (by omega) rfl rfl (by decide)).mono ?_
        rintro e w3 ⟨x, rfl, x0, x1, hc3, hg3⟩
        have C3 := Lib.hid (C2.out.old hg3)
        have F3 := Lib.hid (F2.out.old hg3)
        have y2 : w3.cell? ⟨w1.heap.size, 2, none⟩ = some (.int .i64 D) := F3.out.cell 2
        have z2 : w3.frozen? ⟨w1.heap.size, 2, none⟩ = false := F3.out.frozen 2
        have C4 := Lib.hid (C3.out.other (b' := w1.heap.size) HLE.out 2 (.int .i64 x))
        have F4 := Lib.hid (F3.out.set 2 (.int .i64 x))
        have HC4 := Lib.hid (hc3.keep ((Below.refl (p + 1) w3).setCell (p := ⟨w1.heap.size, 2, none⟩) (by have := F3.out.2.2.1; exact this) (.int .i64 x)))
        clear hc3 hg3 C2 F2 HC2 C3 F3
        have c0 : (w3.setCell ⟨w1.heap.size, 2, none⟩ (.int .i64 x)).cell? ⟨w.heap.size, 0, none⟩ = some (.int .i64 0) := C4.out.cell 0
        have c1 : (w3.setCell ⟨w1.heap.size, 2, none⟩ (.int .i64 x)).cell? ⟨w.heap.size, 1, none⟩ = some (.int .i64 0) := C4.out.cell 1
        have c2 : (w3.setCell ⟨w1.heap.size, 2, none⟩ (.int .i64 x)).cell? ⟨w.heap.size, 2, none⟩ = some (.int .i64 0) := C4.out.cell 2
        have f0 : (w3.setCell ⟨w1.heap.size, 2, none⟩ (.int .i64 x)).frozen? ⟨w.heap.size, 0, none⟩ = false := C4.out.frozen 0
        have f1 : (w3.setCell ⟨w1.heap.size, 2, none⟩ (.int .i64 x)).frozen? ⟨w.heap.size, 1, none⟩ = false := C4.out.frozen 1
        have f2 : (w3.setCell ⟨w1.heap.size, 2, none⟩ (.int .i64 x)).frozen? ⟨w.heap.size, 2, none⟩ = false := C4.out.frozen 2
        have q0 : (w3.setCell ⟨w1.heap.size, 2, none⟩ (.int .i64 x)).cell? ⟨w1.heap.size, 0, none⟩ = some (.int .i64 K) := F4.out.cell 0
        have q1 : (w3.setCell ⟨w1.heap.size, 2, none⟩ (.int .i64 x)).cell? ⟨w1.heap.size, 1, none⟩ = some (.int .i64 A) := F4.out.cell 1
        have q2 : (w3.setCell ⟨w1.heap.size, 2, none⟩ (.int .i64 x)).cell? ⟨w1.heap.size, 2, none⟩ = some (.int .i64 x) := F4.out.cell 2
        have HE := Lib.hid (((C4.out.set 0 (.int .i64 K)).set 1 (.int .i64 A)).set 2 (.int .i64 x))
        have HB := Lib.hid (Cur.stored3 HC4.out C4.out.2.2.1 (.int .i64 K) (.int .i64 A) (.int .i64 x))
        clear C4 F4 HC4
        go_wp2_with fail
        have hl := HE.out.load Tryd.underlying25 rfl (by kernel_rfl)
        refine bodyPost_ret (v := .agg #[.int .i64 K, .int .i64 A, .int .i64 x]) ?_ rfl ⟨_, _, _, rfl, ⟨HV.out.1, HV.out.2.1, by omega, by omega⟩, HB.out.more (by omega), HE.out.1⟩
        rw [ats.results_cell1 rfl]
        simp [asAddr, Result.andThen, hl]
      · have d2 : (i == 2) = false := by simpa using h2
        have c0 : w2.cell? ⟨w.heap.size, 0, none⟩ = some (.int .i64 0) := C2.out.cell 0
        have c1 : w2.cell? ⟨w.heap.size, 1, none⟩ = some (.int .i64 0) := C2.out.cell 1
        have c2 : w2.cell? ⟨w.heap.size, 2, none⟩ = some (.int .i64 0) := C2.out.cell 2
        have f0 : w2.frozen? ⟨w.heap.size, 0, none⟩ = false := C2.out.frozen 0
        have f1 : w2.frozen? ⟨w.heap.size, 1, none⟩ = false := C2.out.frozen 1
        have f2 : w2.frozen? ⟨w.heap.size, 2, none⟩ = false := C2.out.frozen 2
        have q0 : w2.cell? ⟨w1.heap.size, 0, none⟩ = some (.int .i64 K) := F2.out.cell 0
        have q1 : w2.cell? ⟨w1.heap.size, 1, none⟩ = some (.int .i64 A) := F2.out.cell 1
        have q2 : w2.cell? ⟨w1.heap.size, 2, none⟩ = some (.int .i64 D) := F2.out.cell 2
        have HE := Lib.hid (((C2.out.set 0 (.int .i64 K)).set 1 (.int .i64 A)).set 2 (.int .i64 D))
        have HB := Lib.hid (Cur.stored3 HC2.out C2.out.2.2.1 (.int .i64 K) (.int .i64 A) (.int .i64 D))
        clear C2 F2 HC2
        go_wp2_with fail
        have hl := HE.out.load Tryd.underlying25 rfl (by kernel_rfl)
        refine bodyPost_ret (v := .agg #[.int .i64 K, .int .i64 A, .int .i64 D]) ?_ rfl ⟨_, _, _, rfl, HV.out, HB.out.more (by omega), HE.out.1⟩
        rw [ats.results_cell1 rfl]
        simp [asAddr, Result.andThen, hl]
end Go.Proofs.YtpjpdfannnafbaaDoor.drawv
