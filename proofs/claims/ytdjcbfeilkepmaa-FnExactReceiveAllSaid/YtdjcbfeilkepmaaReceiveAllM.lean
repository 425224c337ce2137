/- For every receiver, list of messages and minute the law FnExactReceiveAll returns true: impl.ReceiveAll and spec.ReceiveAll return the same receiver with the frames that the messages hold, and the same count, or both a zero receiver, 0 and false; the arguments are left as they were, the results share no memory. No condition. -/
import Derived.Test.YtdjcbfeilkepmaaRcvM
import Derived.Deep.Slices
import Derived.Deep.Fields
import Derived.ChangeSame
import Derived.Lib.SmallJoins
import Derived.Test.YtdjcbfeilkepmaaPosX
import Derived.BigQuiet
import Derived.Deep.QuietTactic
import Derived.Deep.CutRange
import Derived.Laws.MakeOwn
import Derived.Lib.QuietBelow
import Derived.Test.YtdjcbfeilkepmaaStrs
import Derived.Test.YtdjcbfeilkepmaaLst
import Derived.Test.YtdjcbfeilkepmaaRows
import Derived.Test.YtdjcbfeilkepmaaRcvU
import Derived.Test.YtdjcbfeilkepmaaRcvV
import Derived.WalkKit
import Derived.ProofKit
import Derived.OpenShut
import Derived.ShutString
import Derived.ChangeOld
import Derived.Below
import Derived.Deep.RegionHeld3

/- An argument that is a receiver (a minute and a slice of structs with structs in them), opened: its list reads as a list of what is heard. -/
namespace Go.Proofs.Ytdjcbfeilkepmaa.rcvo
open Go.RowKit Go.ChangeShapes Go.WideShapes Go.Deep Go.Joins Go.Proofs.Ytdjcbfeilkepmaa.rcv Go.Proofs.Ytdjcbfeilkepmaa.rcvm

section
variable {H : Type} {enc : TypeId × Value → H} {w : World} {base : Nat} {spare : Nat → Bool} {held : Bool}
theorem one_int {fuel : Nat} {c : Value} {x : DataW H × List MemPlace} (h : DataW.trod enc Try.prog w base spare held fuel 3 [c] = some x) : ∃ z, c = .int .i64 z := by
  obtain ⟨z, e, -, -⟩ := DataW.trod_int Try.underlying3 h
  exact ⟨z, by simpa using e⟩
theorem one_bool {fuel : Nat} {c : Value} {x : DataW H × List MemPlace} (h : DataW.trod enc Try.prog w base spare held fuel 4 [c] = some x) : ∃ z, c = .bool z := by
  obtain ⟨z, e, -⟩ := DataW.trod_bool Try.underlying4 h
  exact ⟨z, by simpa using e⟩
theorem cells_report : Try.prog.cellsOf 160 = 3 := by kernel_rfl
theorem cells_heard : Try.prog.cellsOf 162 = 10 := by kernel_rfl
theorem cells_int : Try.prog.cellsOf 3 = 1 := by kernel_rfl
theorem cells_bool : Try.prog.cellsOf 4 = 1 := by kernel_rfl
set_option maxRecDepth 100000 in
theorem one_report {fuel : Nat} {c0 c1 c2 : Value} {x : DataW H × List MemPlace} (h : DataW.trod enc Try.prog w base spare held fuel 160 [c0, c1, c2] = some x) : ∃ o a b, c0 = .bool o ∧ c1 = .int .i64 a ∧ c2 = .int .i64 b := by
  obtain ⟨xs, n, _, _, hlen, hxs, hf⟩ := DataW.trod_struct Try.underlying160 h
  have h0 : DataW.trod enc Try.prog w base spare held n 4 (([c0, c1, c2].drop 0).take (Try.prog.cellsOf 4)) = xs[0]? := hf 0 _ rfl
  have h1 : DataW.trod enc Try.prog w base spare held n 3 (([c0, c1, c2].drop 1).take (Try.prog.cellsOf 3)) = xs[1]? := hf 1 _ rfl
  have h2 : DataW.trod enc Try.prog w base spare held n 3 (([c0, c1, c2].drop 2).take (Try.prog.cellsOf 3)) = xs[2]? := hf 2 _ rfl
  rw [cells_bool] at h0
  rw [cells_int] at h1 h2
  have l : xs.length = 3 := hxs
  have g0 : xs[0]? = some (xs[0]'(by omega)) := List.getElem?_eq_getElem (by omega)
  have g1 : xs[1]? = some (xs[1]'(by omega)) := List.getElem?_eq_getElem (by omega)
  have g2 : xs[2]? = some (xs[2]'(by omega)) := List.getElem?_eq_getElem (by omega)
  obtain ⟨o, e0⟩ := one_bool (c := c0) (h0.trans g0)
  obtain ⟨a, e1⟩ := one_int (c := c1) (h1.trans g1)
  obtain ⟨b, e2⟩ := one_int (c := c2) (h2.trans g2)
  exact ⟨o, a, b, e0, e1, e2⟩
set_option maxRecDepth 100000 in
theorem one_heard {fuel : Nat} {cs : List Value} {x : DataW H × List MemPlace} (h : DataW.trod enc Try.prog w base spare held fuel 162 cs = some x) : ∃ z : Hd, cs = row z := by
  obtain ⟨xs, n, _, _, hlen, hxs, hf⟩ := DataW.trod_struct Try.underlying162 h
  have hl : cs.length = 10 := hlen.trans cells_heard
  match cs, hl with
  | [c0, c1, c2, c3, c4, c5, c6, c7, c8, c9], _ =>
    have h0 : DataW.trod enc Try.prog w base spare held n 3 (([c0, c1, c2, c3, c4, c5, c6, c7, c8, c9].drop 0).take (Try.prog.cellsOf 3)) = xs[0]? := hf 0 _ rfl
    have h1 : DataW.trod enc Try.prog w base spare held n 160 (([c0, c1, c2, c3, c4, c5, c6, c7, c8, c9].drop 1).take (Try.prog.cellsOf 160)) = xs[1]? := hf 1 _ rfl
    have h2 : DataW.trod enc Try.prog w base spare held n 3 (([c0, c1, c2, c3, c4, c5, c6, c7, c8, c9].drop 4).take (Try.prog.cellsOf 3)) = xs[2]? := hf 2 _ rfl
    have h3 : DataW.trod enc Try.prog w base spare held n 160 (([c0, c1, c2, c3, c4, c5, c6, c7, c8, c9].drop 5).take (Try.prog.cellsOf 160)) = xs[3]? := hf 3 _ rfl
    have h4 : DataW.trod enc Try.prog w base spare held n 3 (([c0, c1, c2, c3, c4, c5, c6, c7, c8, c9].drop 8).take (Try.prog.cellsOf 3)) = xs[4]? := hf 4 _ rfl
    have h5 : DataW.trod enc Try.prog w base spare held n 3 (([c0, c1, c2, c3, c4, c5, c6, c7, c8, c9].drop 9).take (Try.prog.cellsOf 3)) = xs[5]? := hf 5 _ rfl
    rw [cells_int] at h0 h2 h4 h5
    rw [cells_report] at h1 h3
    have l : xs.length = 6 := hxs
    have g : ∀ i (hi : i < 6), xs[i]? = some (xs[i]'(by omega)) := fun i hi => List.getElem?_eq_getElem (by omega)
    obtain ⟨z0, e0⟩ := one_int (c := c0) (h0.trans (g 0 (by omega)))
    obtain ⟨z1, z2, z3, e1, e2, e3⟩ := one_report (c0 := c1) (c1 := c2) (c2 := c3) (h1.trans (g 1 (by omega)))
    obtain ⟨z4, e4⟩ := one_int (c := c4) (h2.trans (g 2 (by omega)))
    obtain ⟨z5, z6, z7, e5, e6, e7⟩ := one_report (c0 := c5) (c1 := c6) (c2 := c7) (h3.trans (g 3 (by omega)))
    obtain ⟨z8, e8⟩ := one_int (c := c8) (h4.trans (g 4 (by omega)))
    obtain ⟨z9, e9⟩ := one_int (c := c9) (h5.trans (g 5 (by omega)))
    exact ⟨⟨z0, z1, z2, z3, z4, z5, z6, z7, z8, z9⟩, by subst e0 e1 e2 e3 e4 e5 e6 e7 e8 e9; rfl⟩
theorem list_of (f : Nat → List Value) (n : Nat) (h : ∀ i, i < n → ∃ z : Hd, f i = row z) : ∃ hs : List Hd, hs.length = n ∧ ∀ i, i < n → f i = row (hx hs i) := by
  induction n with
  | zero => exact ⟨[], rfl, fun i hi => absurd hi (Nat.not_lt_zero _)⟩
  | succ n ih =>
    obtain ⟨hs, hl, hf⟩ := ih (fun i hi => h i (by omega))
    obtain ⟨z, hz⟩ := h n (by omega)
    refine ⟨hs ++ [z], by simp [hl], fun i hi => ?_⟩
    rcases Nat.lt_or_ge i n with h1 | h1
    · rw [hf i h1, show hx (hs ++ [z]) i = hx hs i from hx_of (by rw [List.getElem?_append_left (by omega)]; exact hx_some (by omega))]
    · obtain rfl : i = n := by omega
      rw [hz, show hx (hs ++ [z]) i = z from hx_of (by rw [List.getElem?_append_right (by omega), hl, Nat.sub_self]; rfl)]
set_option maxRecDepth 100000 in
theorem open_list {fuel : Nat} {c : Value} {x : DataW H × List MemPlace} (h : DataW.trod enc Try.prog w base spare held fuel 63 [c] = some x) :
    ∃ (A : Option Addr) (k : Nat) (hs : List Hd), c = .slice A hs.length k ∧ RdH w w.heap.size A hs ∧ hs.length ≤ maxLen := by
  rcases open_slice Try.underlying63 h with ⟨e, _⟩ | ⟨a, n, cap, m, _, D, Pl, e, _, hl, hm, hmm, _, hi⟩
  · obtain rfl : c = .slice none 0 0 := by simpa using e
    exact ⟨none, 0, [], rfl, ⟨by simp [rows], fun h => absurd h (Nat.not_lt_zero _)⟩, Nat.zero_le _⟩
  · obtain rfl : c = .slice (some a) n cap := by simpa using e
    have hnm : n ≤ m := by rw [hmm]; split <;> omega
    rw [cells_heard] at hi
    have each : ∀ i, i < n → ∃ z : Hd, ∀ j v, (row z)[j]? = some v → w.cell? ((a.add (i * 10)).add j) = some v := by
      intro i hin
      obtain ⟨cs', hc, ht'⟩ := hi i (by omega)
      obtain ⟨_, _, hat⟩ := World.cells?_some hc
      obtain ⟨z, rfl⟩ := one_heard ht'
      refine ⟨z, fun j v hv => ?_⟩
      have hj : j < 10 := by
        have := (List.getElem?_eq_some_iff.1 hv).1
        rwa [row_length] at this
      rw [hat j hj]; exact hv
    obtain ⟨hs, hlen, hf⟩ := list_of (fun i => if h : i < n then row (Classical.choose (each i h)) else row zero) n (fun i hi => ⟨_, by rw [dif_pos hi]⟩)
    have hrow : ∀ i (hin : i < n) j v, (row (hx hs i))[j]? = some v → w.cell? ((a.add (i * 10)).add j) = some v := by
      intro i hin j v hv
      have h1 := hf i hin
      simp only [dif_pos hin] at h1
      exact Classical.choose_spec (each i hin) j v (by rw [h1]; exact hv)
    subst hlen
    rcases Nat.eq_zero_or_pos hs.length with h0 | hn
    · refine ⟨some a, cap, hs, rfl, ⟨rows_length hs, fun h => by omega⟩, by omega⟩
    have h00 := hrow 0 hn 0 (.int .i64 (hx hs 0).ad) rfl
    rw [Nat.zero_mul, Addr.add_zero', Addr.add_zero'] at h00
    obtain ⟨b, o, sp⟩ := a
    obtain rfl : sp = none := World.cell?_spot h00
    refine ⟨_, cap, hs, rfl, ⟨rows_length hs, fun _ => ⟨b, o, rfl, World.block_lt_of_cell? _ _ h00, fun j v hv => ?_⟩⟩, by omega⟩
    have hj : j < hs.length * 10 := by have := (List.getElem?_eq_some_iff.1 hv).1; rwa [rows_length] at this
    have h2 := rows_at (hs := hs) (k := j / 10) (j := j % 10) (by omega) (by omega)
    rw [Nat.div_add_mod' j 10, hv] at h2
    have h3 := hrow (j / 10) (by omega) (j % 10) v h2.symm
    rw [add_add, Nat.div_add_mod', Addr.add_lit] at h3
    exact h3
set_option maxRecDepth 100000 in
theorem open_receiver {r : Reach} {b0 : Nat} {v : Value} {d : DataW H} {p : List MemPlace} (hv : Value.okWide Try.prog w r b0 65 v) (h : DataW.Trod enc Try.prog w base spare held 65 v d p) :
    ∃ (m : Int) (A : Option Addr) (k : Nat) (hs : List Hd), v = .agg #[.int .i64 m, .slice A hs.length k] ∧ RdH w w.heap.size A hs ∧ hs.length ≤ maxLen := by
  obtain ⟨v0, v1, y0, y1, n, rfl, rfl, rfl, t0, t1⟩ := open_agg2 Try.underlying65 (by kernel_rfl) (by kernel_rfl) hv h
  obtain ⟨m, rfl⟩ := one_int t0
  obtain ⟨A, k, hs, rfl, h1, h2⟩ := open_list t1
  exact ⟨m, A, k, hs, rfl, h1, h2⟩
end
end Go.Proofs.Ytdjcbfeilkepmaa.rcvo

/- The laws' own toHeard. -/
namespace Go.Proofs.Ytdjcbfeilkepmaa.rcvc0
open Go.RowKit Go.Proofs.Ytdjcbfeilkepmaa.rcv Go.Proofs.Ytdjcbfeilkepmaa.rcvm Go.Proofs.Ytdjcbfeilkepmaa.ats Go.Proofs.Ytdjcbfeilkepmaa.lst

set_option maxRecDepth 100000 in
set_option maxHeartbeats 4000000 in
theorem toHeard (h : Hd) (w : World) :
    Calls Try.prog 137 #[.agg #[.int .i64 h.ad, .bool h.eo, .int .i64 h.ea, .int .i64 h.eb, .int .i64 h.et, .bool h.oo, .int .i64 h.oa, .int .i64 h.ob, .int .i64 h.ot, .int .i64 h.fr]] w fun e w' => e = .returned (.agg #[.int .i64 h.ad, .bool h.eo, .int .i64 h.ea, .int .i64 h.eb, .int .i64 h.et, .bool h.oo, .int .i64 h.oa, .int .i64 h.ob, .int .i64 h.ot, .int .i64 h.fr]) ∧ Below w.heap.size w w' := by
  have B0 := Lib.hid (((newS 162 #[.int .i64 h.ad, .bool h.eo, .int .i64 h.ea, .int .i64 h.eb, .int .i64 h.et, .bool h.oo, .int .i64 h.oa, .int .i64 h.ob, .int .i64 h.ot, .int .i64 h.fr] w).alloc (.cells #[.int .i64 0, .bool false, .int .i64 0, .int .i64 0, .int .i64 0, .bool false, .int .i64 0, .int .i64 0, .int .i64 0, .int .i64 0] 137)).alloc (.cells #[.int .i64 h.ad, .bool false, .int .i64 0, .int .i64 0, .int .i64 0, .bool false, .int .i64 0, .int .i64 0, .int .i64 0, .int .i64 0] 137))
  have C0 := Lib.hid (((newS 162 #[.int .i64 h.ad, .bool h.eo, .int .i64 h.ea, .int .i64 h.eb, .int .i64 h.et, .bool h.oo, .int .i64 h.oa, .int .i64 h.ob, .int .i64 h.ot, .int .i64 h.fr] w).next 137 #[.int .i64 0, .bool false, .int .i64 0, .int .i64 0, .int .i64 0, .bool false, .int .i64 0, .int .i64 0, .int .i64 0, .int .i64 0]).alloc (.cells #[.int .i64 h.ad, .bool false, .int .i64 0, .int .i64 0, .int .i64 0, .bool false, .int .i64 0, .int .i64 0, .int .i64 0, .int .i64 0] 137))
  have D0 := Lib.hid (((newS 162 #[.int .i64 h.ad, .bool h.eo, .int .i64 h.ea, .int .i64 h.eb, .int .i64 h.et, .bool h.oo, .int .i64 h.oa, .int .i64 h.ob, .int .i64 h.ot, .int .i64 h.fr] w).alloc (.cells #[.int .i64 0, .bool false, .int .i64 0, .int .i64 0, .int .i64 0, .bool false, .int .i64 0, .int .i64 0, .int .i64 0, .int .i64 0] 137)).next 137 #[.int .i64 h.ad, .bool false, .int .i64 0, .int .i64 0, .int .i64 0, .bool false, .int .i64 0, .int .i64 0, .int .i64 0, .int .i64 0])
  rw [World.size_alloc] at C0
  rw [World.size_alloc, World.size_alloc] at D0
  have LE := Lib.hid (show w.heap.size ≤ w.heap.size + 1 + 1 by omega)
  have NB := Lib.hid (show w.heap.size ≠ w.heap.size + 1 + 1 by omega)
  have NC := Lib.hid (show w.heap.size + 1 ≠ w.heap.size + 1 + 1 by omega)
  have X1 := Lib.hid (fun w => posx.toReport h.eo h.ea h.eb w)
  have X2 := Lib.hid (fun w => posx.toReport h.oo h.oa h.ob w)
  go_enter Try.func137, Try.ntmps137
  go_wp2_with fail
  refine (X1.out _).mono ?_
  rintro e V2 ⟨rfl, hb2⟩
  have B2 := Lib.hid (B0.out.old hb2)
  have C2 := Lib.hid (C0.out.old hb2)
  have D2 := Lib.hid (D0.out.old hb2)
  clear B0 C0 D0 hb2 X1
  have f1 : V2.cell? ⟨w.heap.size + 1 + 1, 1, none⟩ = some (.bool false) := D2.out.cell 1
  have f2 : V2.cell? ⟨w.heap.size + 1 + 1, 2, none⟩ = some (.int .i64 0) := D2.out.cell 2
  have f3 : V2.cell? ⟨w.heap.size + 1 + 1, 3, none⟩ = some (.int .i64 0) := D2.out.cell 3
  have f4 : V2.cell? ⟨w.heap.size + 1 + 1, 4, none⟩ = some (.int .i64 0) := D2.out.cell 4
  have g1 := D2.out.frozen 1
  have g2 := D2.out.frozen 2
  have g3 := D2.out.frozen 3
  have g4 := D2.out.frozen 4
  have c4 : V2.cell? ⟨w.heap.size, 4, none⟩ = some (.int .i64 h.et) := B2.out.cell 4
  have c5 : V2.cell? ⟨w.heap.size, 5, none⟩ = some (.bool h.oo) := B2.out.cell 5
  have c6 : V2.cell? ⟨w.heap.size, 6, none⟩ = some (.int .i64 h.oa) := B2.out.cell 6
  have c7 : V2.cell? ⟨w.heap.size, 7, none⟩ = some (.int .i64 h.ob) := B2.out.cell 7
  have D3 := Lib.hid (at_even D2.out (.bool h.eo) (.int .i64 h.ea) (.int .i64 h.eb) (.int .i64 h.et))
  have C3 := Lib.hid ((((C2.out.other (b' := w.heap.size + 1 + 1) LE.out NC.out 1 (.bool h.eo)).other (b' := w.heap.size + 1 + 1) LE.out NC.out 2 (.int .i64 h.ea)).other (b' := w.heap.size + 1 + 1) LE.out NC.out 3 (.int .i64 h.eb)).other (b' := w.heap.size + 1 + 1) LE.out NC.out 4 (.int .i64 h.et))
  have B3 := Lib.hid ((((B2.out.other (b' := w.heap.size + 1 + 1) LE.out NB.out 1 (.bool h.eo)).other (b' := w.heap.size + 1 + 1) LE.out NB.out 2 (.int .i64 h.ea)).other (b' := w.heap.size + 1 + 1) LE.out NB.out 3 (.int .i64 h.eb)).other (b' := w.heap.size + 1 + 1) LE.out NB.out 4 (.int .i64 h.et))
  clear B2 C2 D2
  go_wp2_with fail
  generalize (((V2.setCell ⟨w.heap.size + 1 + 1, 1, none⟩ (.bool h.eo)).setCell ⟨w.heap.size + 1 + 1, 2, none⟩ (.int .i64 h.ea)).setCell ⟨w.heap.size + 1 + 1, 3, none⟩ (.int .i64 h.eb)).setCell ⟨w.heap.size + 1 + 1, 4, none⟩ (.int .i64 h.et) = V3 at *
  clear f1 f2 f3 f4 g1 g2 g3 g4 c4 c5 c6 c7
  refine (X2.out _).mono ?_
  rintro e V4 ⟨rfl, hb4⟩
  have B4 := Lib.hid (B3.out.old hb4)
  have C4 := Lib.hid (C3.out.old hb4)
  have D4 := Lib.hid (D3.out.old hb4)
  clear B3 C3 D3 hb4 X2
  obtain ⟨f0, f1, f2, f3, f4, f5, f6, f7, f8, f9⟩ := ten D4.out
  obtain ⟨-, -, -, -, -, g5, g6, g7, g8, g9⟩ := tenF D4.out
  have c8 : V4.cell? ⟨w.heap.size, 8, none⟩ = some (.int .i64 h.ot) := B4.out.cell 8
  have c9 : V4.cell? ⟨w.heap.size, 9, none⟩ = some (.int .i64 h.fr) := B4.out.cell 9
  have C5 := Lib.hid (((((C4.out.other (b' := w.heap.size + 1 + 1) LE.out NC.out 5 (.bool h.oo)).other (b' := w.heap.size + 1 + 1) LE.out NC.out 6 (.int .i64 h.oa)).other (b' := w.heap.size + 1 + 1) LE.out NC.out 7 (.int .i64 h.ob)).other (b' := w.heap.size + 1 + 1) LE.out NC.out 8 (.int .i64 h.ot)).other (b' := w.heap.size + 1 + 1) LE.out NC.out 9 (.int .i64 h.fr))
  have D5 := Lib.hid (at_rest D4.out (.bool h.oo) (.int .i64 h.oa) (.int .i64 h.ob) (.int .i64 h.ot) (.int .i64 h.fr))
  clear B4 C4 D4
  go_upto_region 8 with fail
  generalize ((((V4.setCell ⟨w.heap.size + 1 + 1, 5, none⟩ (.bool h.oo)).setCell ⟨w.heap.size + 1 + 1, 6, none⟩ (.int .i64 h.oa)).setCell ⟨w.heap.size + 1 + 1, 7, none⟩ (.int .i64 h.ob)).setCell ⟨w.heap.size + 1 + 1, 8, none⟩ (.int .i64 h.ot)).setCell ⟨w.heap.size + 1 + 1, 9, none⟩ (.int .i64 h.fr) = V5 at *
  clear f0 f1 f2 f3 f4 f5 f6 f7 f8 f9 g5 g6 g7 g8 g9 c8 c9
  obtain ⟨c0, c1, c2, c3, c4, c5, c6, c7, c8, c9⟩ := ten D5.out
  obtain ⟨f0, f1, f2, f3, f4, f5, f6, f7, f8, f9⟩ := ten C5.out
  obtain ⟨g0, g1, g2, g3, g4, g5, g6, g7, g8, g9⟩ := tenF C5.out
  have HE := Lib.hid (at_all C5.out (.int .i64 h.ad) (.bool h.eo) (.int .i64 h.ea) (.int .i64 h.eb) (.int .i64 h.et) (.bool h.oo) (.int .i64 h.oa) (.int .i64 h.ob) (.int .i64 h.ot) (.int .i64 h.fr))
  clear C5 D5
  go_wp2_with fail
  have hl := HE.out.load Try.underlying137 rfl (by kernel_rfl)
  refine bodyPost_ret (v := .agg #[.int .i64 h.ad, .bool h.eo, .int .i64 h.ea, .int .i64 h.eb, .int .i64 h.et, .bool h.oo, .int .i64 h.oa, .int .i64 h.ob, .int .i64 h.ot, .int .i64 h.fr]) ?_ rfl ⟨rfl, HE.out.1⟩
  rw [results_cell1 rfl]
  simp [asAddr, Result.andThen, hl]

end Go.Proofs.Ytdjcbfeilkepmaa.rcvc0

/- The laws' own helpers on receivers: toHeard, toHeardS, toReceiver, szReceiver, eqHeard, eqHeardS, eqReceiver. -/
namespace Go.Proofs.Ytdjcbfeilkepmaa.rcvc
open Go.RowKit Go.Proofs.Ytdjcbfeilkepmaa.rcv Go.Proofs.Ytdjcbfeilkepmaa.rcvm Go.Proofs.Ytdjcbfeilkepmaa.ats Go.Proofs.Ytdjcbfeilkepmaa.lst

set_option maxRecDepth 100000 in
set_option maxHeartbeats 4000000 in
theorem toHeardS (hs : List Hd) (A : Option Addr) (c : Nat) (w : World) (hn : hs.length ≤ 1048577) (h : RdH w w.heap.size A hs) :
    Calls Try.prog 104 #[.slice A hs.length c] w fun e w' => ∃ (g : Nat), e = .returned (.slice (some ⟨g, 0, none⟩) hs.length hs.length) ∧ w'.ownsRow w.heap.size 137 10 (.slice (some ⟨g, 0, none⟩) hs.length hs.length) hs.length (rows hs) ∧ Below w.heap.size w w' := by
  obtain ⟨i0, hi, hz0, hz1, hz2⟩ := info_parts infoH
  have HR := Lib.hid (fun (wr : World) (hb : Below w.heap.size w wr) => h.below hb (Nat.le_refl _))
  have P0 := Lib.hid (fill_zero hs)
  have PA := Lib.hid (fill_all hs)
  have PL := Lib.hid (fun k (hk : k ≤ hs.length) => fill_length hk)
  have PS := Lib.hid (fun k (hk : k < hs.length) => fill_set hk)
  generalize hN : hs.length = n at *
  have HN := Lib.hid hN
  clear h hN
  go_enter Try.func104, Try.ntmps104
  go_wp2_with (at_make; refine wpList_make_full _ rfl _ _ 69 rfl w.heap.size 137 i0 (hv zero) 10 Try.underlying69 hi hz0 hz1 _ _ _ _ n rfl rfl rfl rfl (by rw [hz2]; omega) (by unfold maxLen; omega) (Nat.le_refl _) ?_; intro w1 hown hg)
  have hown0 : w1.ownsRow w.heap.size 137 10 (.slice (some ⟨w.heap.size, 0, none⟩) n n) n (rows (fillH hs 0)) := by
    rw [P0.out, rows_replicate]; exact hown
  have hb1 : Below w.heap.size w w1 := (Below.refl _ _).grown hg (Nat.le_refl _) (fun k e => by cases e)
  clear hown hg
  go_loopw [4] (fun i wr => ∃ k : Nat, k ≤ n ∧ i = .int .i64 k ∧ Below w.heap.size w wr ∧ wr.ownsRow w.heap.size 137 10 (.slice (some ⟨w.heap.size, 0, none⟩) n n) n (rows (fillH hs k))) (fun i _ => n - (intOf i).toNat)
  case atStart => exact ⟨0, Nat.zero_le _, rfl, hb1, hown0⟩
  case round =>
    obtain ⟨k, hk, rfl, hb, hown⟩ := hrel
    have HB := Lib.hid hb
    have HO := Lib.hid hown
    clear hb1 hown0 hb hown
    by_cases hlt : k < n
    · obtain ⟨b, o, rfl, hbl, c0, c1, c2, c3, c4, c5, c6, c7, c8, c9⟩ := (HR.out wr HB.out).cells (k := k) (by rw [HN.out]; exact hlt)
      have hlt2 : (k : Int) < (n : Int) := by omega
      have TF := Lib.hid (fun w => rcvc0.toHeard (hx hs k) w)
      have HS := Lib.hid (PS.out k hlt)
      have HL := Lib.hid (PL.out k hk)
      generalize hx hs k = h at *
      go_wp2_with fail
      refine (TF.out _).mono ?_
      rintro e w2 ⟨rfl, hb2⟩
      have HO2 := Lib.hid (own_.own_below HO.out hb2)
      have HB2 := Lib.hid (HB.out.trans (hb2.mono HB.out.size))
      clear c0 c1 c2 c3 c4 c5 c6 c7 c8 c9 hb2 HO HB TF
      obtain ⟨s0, s1, s2, s3, s4, s5, s6, s7, s8, s9⟩ := own_cells HO2.out (k := k) (by rw [HL.out]; exact hlt)
      have r0 := HO2.out.frozenAt (k * 10)
      have r1 := HO2.out.frozenAt (k * 10 + 1)
      have r2 := HO2.out.frozenAt (k * 10 + 2)
      have r3 := HO2.out.frozenAt (k * 10 + 3)
      have r4 := HO2.out.frozenAt (k * 10 + 4)
      have r5 := HO2.out.frozenAt (k * 10 + 5)
      have r6 := HO2.out.frozenAt (k * 10 + 6)
      have r7 := HO2.out.frozenAt (k * 10 + 7)
      have r8 := HO2.out.frozenAt (k * 10 + 8)
      have r9 := HO2.out.frozenAt (k * 10 + 9)
      have HO3 := own_put HO2.out (k := k) (by rw [HL.out]; exact hlt) h
      rw [HS.out] at HO3
      have ST := Lib.hid HO3
      have HB3 := Lib.hid (below_put (i := k * 10) HB2.out (Nat.le_refl _) h)
      clear HO3 HO2 HB2 HS HL
      go_wp2_with fail
      go_roundw
      case rel => exact ⟨k + 1, by omega, by go_num, HB3.out, ST.out⟩
      case measure => simp [intOf]; omega
    · obtain rfl : k = n := by omega
      have HO2 := HO.out
      rw [show rows (fillH hs k) = rows hs by have := PA.out; rw [this]] at HO2
      have HO3 := Lib.hid HO2
      clear HO HO2
      go_wp2_with fail
      go_ret
      exact ⟨w.heap.size, rfl, HO3.out, HB.out⟩

set_option maxRecDepth 100000 in
theorem toReceiver (m : Int) (hs : List Hd) (A : Option Addr) (c : Nat) (w : World) (hn : hs.length ≤ 1048577) (h : RdH w w.heap.size A hs) :
    Calls Try.prog 40 #[.agg #[.int .i64 m, .slice A hs.length c]] w fun e w' => ∃ (g : Nat), e = .returned (.agg #[.int .i64 m, .slice (some ⟨g, 0, none⟩) hs.length hs.length]) ∧ w'.ownsRow w.heap.size 137 10 (.slice (some ⟨g, 0, none⟩) hs.length hs.length) hs.length (rows hs) ∧ Below w.heap.size w w' := by
  have B0 := Lib.hid (((newS 65 #[.int .i64 m, .slice A hs.length c] w).alloc (.cells #[.int .i64 0, .slice none 0 0] 71)).alloc (.cells #[.int .i64 m, .slice none 0 0] 71))
  have C0 := Lib.hid (((newS 65 #[.int .i64 m, .slice A hs.length c] w).next 71 #[.int .i64 0, .slice none 0 0]).alloc (.cells #[.int .i64 m, .slice none 0 0] 71))
  have D0 := Lib.hid (((newS 65 #[.int .i64 m, .slice A hs.length c] w).alloc (.cells #[.int .i64 0, .slice none 0 0] 71)).next 71 #[.int .i64 m, .slice none 0 0])
  rw [World.size_alloc] at C0
  rw [World.size_alloc, World.size_alloc] at D0
  have TS := Lib.hid (toHeardS hs A c _ hn (h.next B0.out.1))
  generalize hN : hs.length = n at *
  clear h hN
  go_enter Try.func40, Try.ntmps40
  go_wp2_with fail
  have HV := Lib.hid (show ((w.alloc (.cells #[.int .i64 m, .slice A n c] 65)).alloc (.cells #[.int .i64 0, .slice none 0 0] 71)).alloc (.cells #[.int .i64 m, .slice none 0 0] 71) = ((w.alloc (.cells #[.int .i64 m, .slice A n c] 65)).alloc (.cells #[.int .i64 0, .slice none 0 0] 71)).alloc (.cells #[.int .i64 m, .slice none 0 0] 71) from rfl)
  clear HV
  generalize ((w.alloc (.cells #[.int .i64 m, .slice A n c] 65)).alloc (.cells #[.int .i64 0, .slice none 0 0] 71)).alloc (.cells #[.int .i64 m, .slice none 0 0] 71) = V at *
  refine TS.out.mono ?_
  rintro e V2 ⟨g, rfl, ho, hb2⟩
  have B2 := Lib.hid (B0.out.old hb2)
  have C2 := Lib.hid (C0.out.old hb2)
  have D2 := Lib.hid (D0.out.old hb2)
  have LV := Lib.hid B0.out.1.size
  have HO := Lib.hid ho
  have LG := Lib.hid (show V.heap.size ≤ g by
    rcases ho.2 with ⟨e, _⟩ | ⟨g', _, _, e, hg, _⟩
    · cases e
    · injection e with e; injection e with e; injection e with e; omega)
  have L3 := Lib.hid (show w.heap.size + 1 + 1 < V.heap.size from D0.out.2.2.1)
  clear B0 C0 D0 hb2 TS ho
  have f0 : V2.cell? ⟨w.heap.size + 1 + 1, 0, none⟩ = some (.int .i64 m) := D2.out.cell 0
  have f1 : V2.cell? ⟨w.heap.size + 1 + 1, 1, none⟩ = some (.slice none 0 0) := D2.out.cell 1
  have g1 := D2.out.frozen 1
  have e0 : V2.cell? ⟨w.heap.size + 1, 0, none⟩ = some (.int .i64 0) := C2.out.cell 0
  have e1 : V2.cell? ⟨w.heap.size + 1, 1, none⟩ = some (.slice none 0 0) := C2.out.cell 1
  have d0 := C2.out.frozen 0
  have d1 := C2.out.frozen 1
  have C3 := Lib.hid (((C2.out.other (b' := w.heap.size + 1 + 1) (by omega) (by omega) 1 (.slice (some ⟨g, 0, none⟩) n n)).set 0 (.int .i64 m)).set 1 (.slice (some ⟨g, 0, none⟩) n n))
  have HO3 := Lib.hid (own_kept_at (own_kept_at (own_kept_at HO.out (grown_set (grown_refl _ (some (w.heap.size + 1 + 1))) 1 (.slice (some ⟨g, 0, none⟩) n n)) (fun g' e => by have := LG.out; have := L3.out; simp [Value.ownBlock] at e; intro e2; injection e2 with e2; omega)) (grown_set (grown_refl _ (some (w.heap.size + 1))) 0 (.int .i64 m)) (fun g' e => by have := LG.out; have := L3.out; simp [Value.ownBlock] at e; intro e2; injection e2 with e2; omega)) (grown_set (grown_refl _ (some (w.heap.size + 1))) 1 (.slice (some ⟨g, 0, none⟩) n n)) (fun g' e => by have := LG.out; have := L3.out; simp [Value.ownBlock] at e; intro e2; injection e2 with e2; omega))
  clear B2 C2 D2 HO
  go_wp2_with fail
  have hl := C3.out.load Try.underlying71 rfl (by kernel_rfl)
  refine bodyPost_ret (v := .agg #[.int .i64 m, .slice (some ⟨g, 0, none⟩) n n]) ?_ rfl ⟨g, rfl, own_.own_base HO3.out LV.out, C3.out.1⟩
  rw [results_cell1 rfl]
  simp [asAddr, Result.andThen, hl]

theorem sz (A : Option Addr) (n c : Nat) (w : World) (hn : n ≤ maxLen) :
    Calls Try.prog 99 #[.slice A n c, .int .i64 1048576] w fun e w' => e = .returned (.int .i64 (if n ≤ 1048576 then 1048576 - (n : Int) else -1)) ∧ w = w' := by
  unfold maxLen at hn
  by_cases h : n ≤ 1048576
  · rw [if_pos h]
    have hn2 : (n : Int) ≤ 1048576 := by omega
    have d : decide ((1048576 : Int) - (n : Int) < 0) = false := decide_eq_false (by omega)
    go_enter Try.func99, Try.ntmps99
    go_wp2_with fail
    go_ret
    exact ⟨rfl, rfl⟩
  · rw [if_neg h]
    have hn2 : ¬ (n : Int) ≤ 1048576 := by omega
    have d : decide ((1048576 : Int) - (n : Int) < 0) = true := decide_eq_true (by omega)
    go_enter Try.func99, Try.ntmps99
    go_wp2_with fail
    go_ret
    exact ⟨rfl, rfl⟩
theorem szReceiver (m : Int) (A : Option Addr) (n c : Nat) (w : World) (hn : n ≤ maxLen) :
    Calls Try.prog 37 #[.agg #[.int .i64 m, .slice A n c], .int .i64 1048576] w fun e w' => e = .returned (.int .i64 (if n ≤ 1048576 then 1048576 - (n : Int) else -1)) ∧ Below w.heap.size w w' := by
  have B0 := Lib.hid (newS 65 #[.int .i64 m, .slice A n c] w)
  have SZ := Lib.hid (fun w => sz A n c w hn)
  by_cases h : n ≤ 1048576
  · simp only [if_pos h] at SZ ⊢
    have d : decide ((1048576 : Int) - (n : Int) < 0) = false := decide_eq_false (by omega)
    generalize (1048576 : Int) - (n : Int) = l at *
    clear hn h
    go_enter Try.func37, Try.ntmps37
    go_wp2_with fail
    refine (SZ.out _).mono ?_
    rintro e w' ⟨rfl, rfl⟩
    go_wp2_with fail
    go_ret
    exact ⟨rfl, B0.out.1⟩
  · simp only [if_neg h] at SZ ⊢
    clear hn h
    go_enter Try.func37, Try.ntmps37
    go_wp2_with fail
    refine (SZ.out _).mono ?_
    rintro e w' ⟨rfl, rfl⟩
    go_wp2_with fail
    go_ret
    exact ⟨rfl, B0.out.1⟩

set_option maxRecDepth 100000 in
set_option maxHeartbeats 4000000 in
theorem eqHeard (h : Hd) (w : World) :
    Calls Try.prog 142 #[.agg #[.int .i64 h.ad, .bool h.eo, .int .i64 h.ea, .int .i64 h.eb, .int .i64 h.et, .bool h.oo, .int .i64 h.oa, .int .i64 h.ob, .int .i64 h.ot, .int .i64 h.fr], .agg #[.int .i64 h.ad, .bool h.eo, .int .i64 h.ea, .int .i64 h.eb, .int .i64 h.et, .bool h.oo, .int .i64 h.oa, .int .i64 h.ob, .int .i64 h.ot, .int .i64 h.fr]] w fun e w' => e = .returned (.bool true) ∧ Below w.heap.size w w' := by
  have B0 := Lib.hid ((newS 137 #[.int .i64 h.ad, .bool h.eo, .int .i64 h.ea, .int .i64 h.eb, .int .i64 h.et, .bool h.oo, .int .i64 h.oa, .int .i64 h.ob, .int .i64 h.ot, .int .i64 h.fr] w).alloc (.cells #[.int .i64 h.ad, .bool h.eo, .int .i64 h.ea, .int .i64 h.eb, .int .i64 h.et, .bool h.oo, .int .i64 h.oa, .int .i64 h.ob, .int .i64 h.ot, .int .i64 h.fr] 137))
  have C0 := Lib.hid ((newS 137 #[.int .i64 h.ad, .bool h.eo, .int .i64 h.ea, .int .i64 h.eb, .int .i64 h.et, .bool h.oo, .int .i64 h.oa, .int .i64 h.ob, .int .i64 h.ot, .int .i64 h.fr] w).next 137 #[.int .i64 h.ad, .bool h.eo, .int .i64 h.ea, .int .i64 h.eb, .int .i64 h.et, .bool h.oo, .int .i64 h.oa, .int .i64 h.ob, .int .i64 h.ot, .int .i64 h.fr])
  rw [World.size_alloc] at C0
  have X1 := Lib.hid (fun w => posx.eqReport h.eo h.ea h.eb w)
  have X2 := Lib.hid (fun w => posx.eqReport h.oo h.oa h.ob w)
  have n0 : (h.ad != h.ad) = false := by simp
  have n1 : (h.et != h.et) = false := by simp
  have n2 : (h.ot != h.ot) = false := by simp
  have n3 : (h.fr != h.fr) = false := by simp
  go_enter Try.func142, Try.ntmps142
  go_wp2_with fail
  refine (X1.out _).mono ?_
  rintro e V2 ⟨rfl, hb2⟩
  have B2 := Lib.hid (B0.out.old hb2)
  have C2 := Lib.hid (C0.out.old hb2)
  clear B0 C0 hb2 X1
  have c4 : V2.cell? ⟨w.heap.size, 4, none⟩ = some (.int .i64 h.et) := B2.out.cell 4
  have c5 : V2.cell? ⟨w.heap.size, 5, none⟩ = some (.bool h.oo) := B2.out.cell 5
  have c6 : V2.cell? ⟨w.heap.size, 6, none⟩ = some (.int .i64 h.oa) := B2.out.cell 6
  have c7 : V2.cell? ⟨w.heap.size, 7, none⟩ = some (.int .i64 h.ob) := B2.out.cell 7
  have d4 : V2.cell? ⟨w.heap.size + 1, 4, none⟩ = some (.int .i64 h.et) := C2.out.cell 4
  have d5 : V2.cell? ⟨w.heap.size + 1, 5, none⟩ = some (.bool h.oo) := C2.out.cell 5
  have d6 : V2.cell? ⟨w.heap.size + 1, 6, none⟩ = some (.int .i64 h.oa) := C2.out.cell 6
  have d7 : V2.cell? ⟨w.heap.size + 1, 7, none⟩ = some (.int .i64 h.ob) := C2.out.cell 7
  go_wp2_with fail
  refine (X2.out _).mono ?_
  rintro e V4 ⟨rfl, hb4⟩
  have B4 := Lib.hid (B2.out.old hb4)
  have C4 := Lib.hid (C2.out.old hb4)
  clear B2 C2 hb4 X2 c4 c5 c6 c7 d4 d5 d6 d7
  have c8 : V4.cell? ⟨w.heap.size, 8, none⟩ = some (.int .i64 h.ot) := B4.out.cell 8
  have c9 : V4.cell? ⟨w.heap.size, 9, none⟩ = some (.int .i64 h.fr) := B4.out.cell 9
  have d8 : V4.cell? ⟨w.heap.size + 1, 8, none⟩ = some (.int .i64 h.ot) := C4.out.cell 8
  have d9 : V4.cell? ⟨w.heap.size + 1, 9, none⟩ = some (.int .i64 h.fr) := C4.out.cell 9
  go_wp2_with fail
  go_ret
  exact ⟨rfl, B4.out.1⟩

set_option maxRecDepth 100000 in
set_option maxHeartbeats 2000000 in
theorem eqHeardS (hs : List Hd) (A C : Option Addr) (c d : Nat) (w : World) (hn : hs.length ≤ 1048577) (h1 : RdH w w.heap.size A hs) (h2 : RdH w w.heap.size C hs) :
    Calls Try.prog 108 #[.slice A hs.length c, .slice C hs.length d] w fun e w' => e = .returned (.bool true) ∧ Below w.heap.size w w' := by
  have H1 := Lib.hid (fun (wr : World) (hb : Below w.heap.size w wr) => h1.below hb (Nat.le_refl _))
  have H2 := Lib.hid (fun (wr : World) (hb : Below w.heap.size w wr) => h2.below hb (Nat.le_refl _))
  generalize hN : hs.length = n at *
  have HN := Lib.hid hN
  clear h1 h2 hN
  go_enter Try.func108, Try.ntmps108
  go_wp2_with fail
  go_loopw [5] (fun i wr => ∃ k : Nat, k ≤ n ∧ i = .int .i64 k ∧ Below w.heap.size w wr) (fun i _ => n - (intOf i).toNat)
  case atStart => exact ⟨0, Nat.zero_le _, rfl, Below.refl _ _⟩
  case round =>
    obtain ⟨k, hk, rfl, hb⟩ := hrel
    by_cases hlt : k < n
    · obtain ⟨b, o, rfl, hbl, p0, p1, p2, p3, p4, p5, p6, p7, p8, p9⟩ := (H1.out wr hb).cells (k := k) (by rw [HN.out]; exact hlt)
      obtain ⟨b', o', rfl, hbl', r0, r1, r2, r3, r4, r5, r6, r7, r8, r9⟩ := (H2.out wr hb).cells (k := k) (by rw [HN.out]; exact hlt)
      have hlt2 : (k : Int) < (n : Int) := by omega
      have X1 := Lib.hid (fun w d0 os => Calls.regrown_of (eqHeard (hx hs k) (Sort.grow (redrawn w d0) os)))
      generalize hx hs k = h at *
      have HB := Lib.hid hb
      clear hb hbl hbl'
      go_wp2_with fail
      have p0' := fun d0 os => cell_regrown p0 d0 os
      have p1' := fun d0 os => cell_regrown p1 d0 os
      have p2' := fun d0 os => cell_regrown p2 d0 os
      have p3' := fun d0 os => cell_regrown p3 d0 os
      have p4' := fun d0 os => cell_regrown p4 d0 os
      have p5' := fun d0 os => cell_regrown p5 d0 os
      have p6' := fun d0 os => cell_regrown p6 d0 os
      have p7' := fun d0 os => cell_regrown p7 d0 os
      have p8' := fun d0 os => cell_regrown p8 d0 os
      have p9' := fun d0 os => cell_regrown p9 d0 os
      have r0' := fun d0 os => cell_regrown r0 d0 os
      have r1' := fun d0 os => cell_regrown r1 d0 os
      have r2' := fun d0 os => cell_regrown r2 d0 os
      have r3' := fun d0 os => cell_regrown r3 d0 os
      have r4' := fun d0 os => cell_regrown r4 d0 os
      have r5' := fun d0 os => cell_regrown r5 d0 os
      have r6' := fun d0 os => cell_regrown r6 d0 os
      have r7' := fun d0 os => cell_regrown r7 d0 os
      have r8' := fun d0 os => cell_regrown r8 d0 os
      have r9' := fun d0 os => cell_regrown r9 d0 os
      clear p0 p1 p2 p3 p4 p5 p6 p7 p8 p9 r0 r1 r2 r3 r4 r5 r6 r7 r8 r9
      refine wp_region_quiet_below (by kernel_rfl) (by kernel_rfl) ?_
      repeat (quiet_step (first
        | (go_at_call 142; with_reducible exact X1.out _ _ _)))
      refine wpQuiet_nil ?_
      intro _ hw'
      obtain ⟨⟨dq, osq⟩, hw''⟩ := hw'
      subst hw''
      have hbq := Lib.hid (HB.out.trans ((below_regrown wr dq osq).mono HB.out.size))
      clear p0' p1' p2' p3' p4' p5' p6' p7' p8' p9' r0' r1' r2' r3' r4' r5' r6' r7' r8' r9'
      generalize Sort.grow (redrawn wr dq) osq = w3 at *
      go_wp2_with fail
      go_roundw
      case rel => exact ⟨k + 1, by omega, by go_num, hbq.out⟩
      case measure => simp [intOf]; omega
    · go_wp2_with fail
      go_ret
      exact ⟨rfl, hb⟩

set_option maxRecDepth 100000 in
theorem eqReceiver (m : Int) (hs : List Hd) (A C : Option Addr) (c d : Nat) (w : World) (hn : hs.length ≤ 1048577) (h1 : RdH w w.heap.size A hs) (h2 : RdH w w.heap.size C hs) :
    Calls Try.prog 43 #[.agg #[.int .i64 m, .slice A hs.length c], .agg #[.int .i64 m, .slice C hs.length d]] w fun e w' => e = .returned (.bool true) ∧ Below w.heap.size w w' := by
  have B0 := Lib.hid ((newS 71 #[.int .i64 m, .slice A hs.length c] w).alloc (.cells #[.int .i64 m, .slice C hs.length d] 71))
  have X1 := Lib.hid (eqHeardS hs A C c d _ hn (h1.next B0.out.1) (h2.next B0.out.1))
  have n0 : (m != m) = false := by simp
  generalize hs.length = n at *
  clear h1 h2
  go_enter Try.func43, Try.ntmps43
  go_wp2_with fail
  refine X1.out.mono ?_
  rintro e V2 ⟨rfl, hb2⟩
  have B2 := Lib.hid (B0.out.old hb2)
  clear B0 X1 hb2
  go_wp2_with fail
  go_ret
  exact ⟨rfl, B2.out.1⟩
end Go.Proofs.Ytdjcbfeilkepmaa.rcvc

/- The laws' own marks in a list of what is heard, and their check: markHeardS, heldHeardS, markReceiver, heldReceiver. -/
namespace Go.Proofs.Ytdjcbfeilkepmaa.rcvd
open Go.RowKit Go.Proofs.Ytdjcbfeilkepmaa.rcv Go.Proofs.Ytdjcbfeilkepmaa.rcvm Go.Proofs.Ytdjcbfeilkepmaa.ats Go.Proofs.Ytdjcbfeilkepmaa.lst

theorem grown_trans9 {a b c : World} {row : Option Nat} (h : a.grownBy b row) (k : b.grownBy c row) : a.grownBy c row :=
  ⟨k.os.trans h.os, k.tape.trans h.tape, k.output.trans h.output, Nat.le_trans h.size k.size, fun b hb hne => (k.block b (Nat.lt_of_lt_of_le hb h.size) hne).trans (h.block b hb hne)⟩
/-- Is it a multiple of three? -/
def tri (q : Int) : Bool := q % 3 == 0
/-- Ten marks from a number on. -/
def mk (q : Int) : Hd := ⟨q, tri (q + 1), q + 1 + 1, q + 1 + 1 + 1, q + 1 + 1 + 1 + 1, tri (q + 1 + 1 + 1 + 1 + 1), q + 1 + 1 + 1 + 1 + 1 + 1, q + 1 + 1 + 1 + 1 + 1 + 1 + 1, q + 1 + 1 + 1 + 1 + 1 + 1 + 1 + 1, q + 1 + 1 + 1 + 1 + 1 + 1 + 1 + 1 + 1⟩
def marksH (k n : Nat) : List Hd := (List.range n).map fun j => mk ((k + j * 10 : Nat) : Int)
theorem marksH_length (k n : Nat) : (marksH k n).length = n := by simp [marksH]
theorem marksH_at {k n j : Nat} (h : j < n) : hx (marksH k n) j = mk ((k + j * 10 : Nat) : Int) := hx_of (by simp [marksH, h])
/-- A list with its first j elements marked. -/
def halfH (k j : Nat) (hs : List Hd) : List Hd := marksH k j ++ hs.drop j
theorem halfH_zero (k : Nat) (hs : List Hd) : halfH k 0 hs = hs := by simp [halfH, marksH]
theorem halfH_all {k : Nat} {hs : List Hd} : halfH k hs.length hs = marksH k hs.length := by unfold halfH; rw [List.drop_length, List.append_nil]
theorem halfH_length {k j : Nat} {hs : List Hd} (h : j ≤ hs.length) : (halfH k j hs).length = hs.length := by
  unfold halfH; rw [List.length_append, marksH_length, List.length_drop]; omega
theorem halfH_set {k j : Nat} {hs : List Hd} (h : j < hs.length) : (halfH k j hs).set j (mk ((k + j * 10 : Nat) : Int)) = halfH k (j + 1) hs := by
  unfold halfH
  rw [List.set_append, if_neg (by rw [marksH_length]; omega), marksH_length, Nat.sub_self, List.drop_eq_getElem_cons h, List.set_cons_zero]
  simp [marksH, List.range_succ]

set_option maxRecDepth 100000 in
set_option maxHeartbeats 4000000 in
theorem markS (B : Nat) (A : Option Addr) (k c : Nat) (hs : List Hd) (w : World) (hk : k + hs.length * 10 ≤ 41943040) (h : w.ownsRow B 137 10 (.slice A hs.length c) hs.length (rows hs)) :
    Calls Try.prog 109 #[.slice A hs.length c, .int .i64 (k : Int)] w fun e w' => e = .returned (.int .i64 ((k + hs.length * 10 : Nat) : Int)) ∧ Below B w w' ∧ w.grownBy w' (Value.slice A hs.length c).ownBlock ∧ w'.ownsRow B 137 10 (.slice A hs.length c) hs.length (rows (marksH k hs.length)) := by
  have S := Lib.hid (fun j (hj : j < hs.length) => halfH_set (k := k) hj)
  have L := Lib.hid (fun j (hj : j ≤ hs.length) => halfH_length (k := k) hj)
  have AL := Lib.hid (halfH_all (k := k) (hs := hs))
  have h0 : w.ownsRow B 137 10 (.slice A hs.length c) hs.length (rows (halfH k 0 hs)) := by rw [halfH_zero]; exact h
  clear h
  generalize hN : hs.length = n at *
  clear hN
  go_enter Try.func109, Try.ntmps109
  go_wp2_with fail
  go_loopw [1, 5] (fun q i wr => ∃ j : Nat, j ≤ n ∧ i = .int .i64 j ∧ q = .int .i64 ((k + j * 10 : Nat) : Int) ∧ Below B w wr ∧ wr.ownsRow B 137 10 (.slice A n c) n (rows (halfH k j hs)) ∧ w.grownBy wr (Value.slice A n c).ownBlock) (fun _ i _ => n - (intOf i).toNat)
  case atStart => exact ⟨0, Nat.zero_le _, rfl, rfl, Below.refl _ _, h0, grown_refl _ _⟩
  case round =>
    obtain ⟨j, hj, rfl, rfl, hb, hown, hgr⟩ := hrel
    clear h0
    by_cases hlt : j < n
    · have hform : ∃ g, A = some ⟨g, 0, none⟩ ∧ B ≤ g := by
        rcases hown.2 with ⟨_, h0⟩ | ⟨g, _, _, hv, hg, _⟩
        · omega
        · injection hv with hA; exact ⟨g, hA, hg⟩
      obtain ⟨g, rfl, hBg⟩ := hform
      have hlt2 : (j : Int) < (n : Int) := by omega
      have e3 : ((k + (j + 1) * 10 : Nat) : Int) = ((k + j * 10 : Nat) : Int) + 1 + 1 + 1 + 1 + 1 + 1 + 1 + 1 + 1 + 1 := by omega
      have E3 := Lib.hid e3
      have b1 : ((k + j * 10 : Nat) : Int) ≤ 41943040 := by omega
      have b0 : (0 : Int) ≤ ((k + j * 10 : Nat) : Int) := by omega
      obtain ⟨s0, s1, s2, s3, s4, s5, s6, s7, s8, s9⟩ := own_cells hown (k := j) (by rw [L.out j hj]; exact hlt)
      have r0 := hown.frozenAt (j * 10)
      have r1 := hown.frozenAt (j * 10 + 1)
      have r2 := hown.frozenAt (j * 10 + 2)
      have r3 := hown.frozenAt (j * 10 + 3)
      have r4 := hown.frozenAt (j * 10 + 4)
      have r5 := hown.frozenAt (j * 10 + 5)
      have r6 := hown.frozenAt (j * 10 + 6)
      have r7 := hown.frozenAt (j * 10 + 7)
      have r8 := hown.frozenAt (j * 10 + 8)
      have r9 := hown.frozenAt (j * 10 + 9)
      have HO := own_put hown (k := j) (by rw [L.out j hj]; exact hlt) (mk ((k + j * 10 : Nat) : Int))
      rw [S.out j hlt] at HO
      have ST := Lib.hid HO
      have HB := Lib.hid (below_put (i := j * 10) hb hBg (mk ((k + j * 10 : Nat) : Int)))
      have HG := Lib.hid (grown_put (i := j * 10) (show w.grownBy wr (some g) from hgr) (mk ((k + j * 10 : Nat) : Int)))
      clear HO hown hb hgr e3
      generalize ((k + j * 10 : Nat) : Int) = m at *
      have q1 : ((m + 1) % 3 == 0) = tri (m + 1) := rfl
      have q5 : ((m + 1 + 1 + 1 + 1 + 1) % 3 == 0) = tri (m + 1 + 1 + 1 + 1 + 1) := rfl
      go_wp2_with fail
      go_roundw
      case rel => exact ⟨j + 1, by omega, by go_num, by rw [E3.out], HB.out, ST.out, HG.out⟩
      case measure => simp [intOf]; omega
    · obtain rfl : j = n := by omega
      rw [AL.out] at hown
      have HO := Lib.hid hown
      clear hown
      go_wp2_with fail
      go_ret
      exact ⟨rfl, hb, hgr, HO.out⟩

set_option maxRecDepth 100000 in
set_option maxHeartbeats 4000000 in
theorem heldS (A : Option Addr) (k n c : Nat) (w : World) (hk : k + n * 10 ≤ 41943040) (h : RdH w w.heap.size A (marksH k n)) :
    Calls Try.prog 111 #[.slice A n c, .int .i64 (k : Int)] w fun e w' => e = .returned (.int .i64 ((k + n * 10 : Nat) : Int)) ∧ w = w' := by
  have ML := Lib.hid (marksH_length k n)
  go_enter Try.func111, Try.ntmps111
  go_wp2_with fail
  go_loop [1, 5] (fun q i => ∃ j : Nat, j ≤ n ∧ i = .int .i64 j ∧ q = .int .i64 ((k + j * 10 : Nat) : Int)) (fun _ i => n - (intOf i).toNat)
  case atStart => exact ⟨0, Nat.zero_le _, rfl, rfl⟩
  case round =>
    obtain ⟨j, hj, rfl, rfl⟩ := hrel
    by_cases hlt : j < n
    · obtain ⟨b, o, rfl, hbl, s0, s1, s2, s3, s4, s5, s6, s7, s8, s9⟩ := h.cells (k := j) (by rw [ML.out]; exact hlt)
      rw [marksH_at hlt] at s0 s1 s2 s3 s4 s5 s6 s7 s8 s9
      have hlt2 : (j : Int) < (n : Int) := by omega
      have e3 : ((k + (j + 1) * 10 : Nat) : Int) = ((k + j * 10 : Nat) : Int) + 1 + 1 + 1 + 1 + 1 + 1 + 1 + 1 + 1 + 1 := by omega
      have E3 := Lib.hid e3
      have b1 : ((k + j * 10 : Nat) : Int) ≤ 41943040 := by omega
      have b0 : (0 : Int) ≤ ((k + j * 10 : Nat) : Int) := by omega
      clear h e3
      generalize ((k + j * 10 : Nat) : Int) = m at *
      have q1 : ((m + 1) % 3 == 0) = tri (m + 1) := rfl
      have q5 : ((m + 1 + 1 + 1 + 1 + 1) % 3 == 0) = tri (m + 1 + 1 + 1 + 1 + 1) := rfl
      have n0 : (m != m) = false := by simp
      have n1 : (tri (m + 1) != tri (m + 1)) = false := by simp
      have n5 : (tri (m + 1 + 1 + 1 + 1 + 1) != tri (m + 1 + 1 + 1 + 1 + 1)) = false := by simp
      simp only [mk] at s0 s1 s2 s3 s4 s5 s6 s7 s8 s9
      go_wp2_with fail
      go_round
      case rel => exact ⟨j + 1, by omega, by go_num, by rw [E3.out]⟩
      case measure => simp [intOf]; omega
    · obtain rfl : j = n := by omega
      clear h
      go_wp2_with fail
      go_ret
      exact ⟨rfl, rfl⟩

set_option maxRecDepth 100000 in
theorem markR (B : Nat) (m : Int) (A : Option Addr) (k c : Nat) (hs : List Hd) (w : World) (hB : B ≤ w.heap.size) (hk : k + hs.length * 10 ≤ 41943040) (h : w.ownsRow B 137 10 (.slice A hs.length c) hs.length (rows hs)) :
    Calls Try.prog 45 #[.agg #[.int .i64 m, .slice A hs.length c], .int .i64 (k : Int)] w fun e w' => e = .returned (.int .i64 ((k + hs.length * 10 : Nat) : Int)) ∧ Below B w w' ∧ w.grownBy w' (Value.slice A hs.length c).ownBlock ∧ w'.ownsRow B 137 10 (.slice A hs.length c) hs.length (rows (marksH k hs.length)) := by
  have HB := Lib.hid ((Below.refl B w).alloc hB (.cells #[.int .i64 m, .slice A hs.length c] 71))
  have HG := Lib.hid (grown_allocZ w (.cells #[.int .i64 m, .slice A hs.length c] 71) (Value.slice A hs.length c).ownBlock)
  have X := Lib.hid (markS B A k c hs (w.alloc (.cells #[.int .i64 m, .slice A hs.length c] 71)) hk (own_kept_at h (grown_allocZ w _ none) (fun g e e2 => by cases e2)))
  clear h hk hB
  generalize ((k + hs.length * 10 : Nat) : Int) = q at *
  generalize rows (marksH k hs.length) = R at *
  generalize hs.length = n at *
  go_enter Try.func45, Try.ntmps45
  go_wp2_with fail
  refine X.out.mono ?_
  rintro e w2 ⟨rfl, hb, hg, ho⟩
  have HB2 := Lib.hid (HB.out.trans hb)
  have HG2 := Lib.hid (grown_trans9 HG.out hg)
  have HO := Lib.hid ho
  clear HB HG X hb hg ho
  go_wp2_with fail
  go_ret
  exact ⟨rfl, HB2.out, HG2.out, HO.out⟩

set_option maxRecDepth 100000 in
theorem heldR (m : Int) (A : Option Addr) (k n c : Nat) (w : World) (hk : k + n * 10 ≤ 41943040) (h : RdH w w.heap.size A (marksH k n)) :
    Calls Try.prog 47 #[.agg #[.int .i64 m, .slice A n c], .int .i64 (k : Int)] w fun e w' => e = .returned (.int .i64 ((k + n * 10 : Nat) : Int)) ∧ Below w.heap.size w w' := by
  have B0 := Lib.hid (newS 71 #[.int .i64 m, .slice A n c] w)
  have X := Lib.hid (heldS A k n c (w.alloc (.cells #[.int .i64 m, .slice A n c] 71)) hk (h.next B0.out.1))
  have d0 : decide (((k + n * 10 : Nat) : Int) < 0) = false := decide_eq_false (by omega)
  clear h hk
  generalize ((k + n * 10 : Nat) : Int) = q at *
  go_enter Try.func47, Try.ntmps47
  go_wp2_with fail
  refine X.out.mono ?_
  rintro e w2 ⟨rfl, rfl⟩
  clear X
  go_wp2_with fail
  go_ret
  exact ⟨rfl, B0.out.1⟩
end Go.Proofs.Ytdjcbfeilkepmaa.rcvd

/- Slices of strings, on: the contracts of the laws' own helpers szStringS and toStringS. -/
namespace Go.Proofs.Ytdjcbfeilkepmaa.strs
open Go.RowKit

/-- What the strings weigh together, each counted with one more. -/
def weight (xs : List ByteArray) : Nat := (xs.map fun x => x.size + 1).sum
theorem weight_nil : weight [] = 0 := rfl
theorem weight_snoc (xs : List ByteArray) (x : ByteArray) : weight (xs ++ [x]) = weight xs + (x.size + 1) := by simp [weight]
theorem take_at {xs : List ByteArray} {k : Nat} {x : ByteArray} (h : xs[k]? = some x) : xs.take (k + 1) = xs.take k ++ [x] := by
  obtain ⟨hk, rfl⟩ := List.getElem?_eq_some_iff.1 h
  rw [List.take_succ_eq_append_getElem hk]
theorem weight_take {xs : List ByteArray} {k : Nat} {x : ByteArray} (h : xs[k]? = some x) : weight (xs.take (k + 1)) = weight (xs.take k) + (x.size + 1) := by rw [take_at h, weight_snoc]
theorem weight_ge (xs : List ByteArray) : xs.length ≤ weight xs := by
  induction xs with
  | nil => simp
  | cons x xs ih => simp [weight] at *; omega

/-- szStringS: a negative number, or the strings are short. -/
def Small (xs : List ByteArray) (r : Int) : Prop := r < 0 ∨ (0 ≤ r ∧ weight xs ≤ 1048576)

set_option maxHeartbeats 400000 in
theorem sz (xs : List ByteArray) (A : Option Addr) (n c : Nat) (w : World) (hn : n ≤ maxLen) (hx : ∀ x ∈ xs, x.size ≤ maxLen) (h : Rd w w.heap.size A n xs) :
    Calls Try.prog 38 #[.slice A n c, .int .i64 1048576] w fun e w' => ∃ r : Int, e = .returned (.int .i64 r) ∧ Small xs r ∧ -1 ≤ r ∧ w = w' := by
  unfold maxLen at hn hx
  by_cases h0 : (1048576 : Int) - (n : Int) < 0
  · clear h
    go_enter Try.func38, Try.ntmps38
    go_wp2
    go_ret
    exact ⟨-1, rfl, .inl (by omega), by omega, rfl⟩
  · have hl := h.1
    have HL := Lib.hid hl
    clear hl
    go_enter Try.func38, Try.ntmps38
    go_wp2
    go_loop [1, 5] (fun q i => ∃ (k : Nat) (r : Int), k ≤ n ∧ i = .int .i64 k ∧ q = .int .i64 r ∧ 0 ≤ r ∧ r + (weight (xs.take k) : Int) + ((n : Int) - (k : Int)) = 1048576) (fun _ i => n - (intOf i).toNat)
    case atStart => exact ⟨0, _, Nat.zero_le _, rfl, rfl, by omega, by rw [List.take_zero, weight_nil]; omega⟩
    case round =>
      obtain ⟨k, r, hk, rfl, rfl, hr, he⟩ := hrel
      have HE := Lib.hid he
      have hr2 : r ≤ 1048576 := by omega
      clear he
      by_cases hlt : k < n
      · obtain ⟨b, o, x, rfl, _, hxx, hc⟩ := h.at_ hlt
        have hxs : x.size ≤ 2 ^ 63 - 1 := hx x (List.mem_of_getElem? hxx)
        have HW := Lib.hid (weight_take hxx)
        have hlt2 : (k : Int) < (n : Int) := by omega
        clear hx h hxx
        by_cases hneg : r - (x.size : Int) < 0
        · go_wp2
          go_ret
          exact ⟨-1, rfl, .inl (by omega), by omega, rfl⟩
        · go_wp2
          go_round
          case rel => exact ⟨k + 1, r - (x.size : Int), by omega, by go_num, by go_num, by omega, by have := HE.out; have := HW.out; omega⟩
          case measure => simp [intOf]; omega
      · obtain rfl : k = n := by omega
        have hf : weight xs ≤ 1048576 := by
          have := HE.out
          rw [List.take_of_length_le (by rw [HL.out]; exact Nat.le_refl _)] at this
          omega
        clear hx h
        go_wp2
        go_ret
        exact ⟨r, rfl, .inr ⟨hr, hf⟩, by omega, rfl⟩

theorem infoS2 : (Try.prog.info? 9).map (fun i => (i.zero, i.size, i.bytes)) = some (some (.string ⟨#[]⟩), 1, 16) := by kernel_rfl

/-- A row whose first k cells are the strings. -/
def filled (xs : List ByteArray) (k n : Nat) : List Value := (xs.take k).map Value.string ++ List.replicate (n - k) (.string ⟨#[]⟩)
theorem filled_set {xs : List ByteArray} {k n : Nat} {x : ByteArray} (h : xs[k]? = some x) (hk : k < n) : (filled xs k n).set k (.string x) = filled xs (k + 1) n := by
  obtain ⟨hl, _⟩ := List.getElem?_eq_some_iff.1 h
  unfold filled
  have h1 : ((xs.take k).map Value.string).length = k := by simp; omega
  rw [List.set_append, if_neg (by omega), h1, Nat.sub_self, take_at h]
  obtain ⟨m, hm⟩ : ∃ m, n - k = m + 1 := ⟨n - k - 1, by omega⟩
  rw [hm, List.replicate_succ, List.set_cons_zero, show n - (k + 1) = m by omega]
  simp
theorem filled_at {xs : List ByteArray} {k n : Nat} (hl : xs.length = n) (hk : k < n) : ∃ u, (filled xs k n)[k]? = some u :=
  ⟨_, List.getElem?_eq_getElem (by unfold filled; simp; omega)⟩
theorem filled_all {xs : List ByteArray} {n : Nat} (hl : xs.length = n) : filled xs n n = xs.map Value.string := by
  unfold filled; rw [List.take_of_length_le (by omega)]; simp

set_option maxHeartbeats 1000000 in
theorem copyS (xs : List ByteArray) (A : Option Addr) (n c : Nat) (w : World) (hn : n ≤ 1048576) (h : Rd w w.heap.size A n xs) :
    Calls Try.prog 41 #[.slice A n c] w fun e w' => ∃ (g : Nat), e = .returned (.slice (some ⟨g, 0, none⟩) n n) ∧ w'.ownsRow w.heap.size 9 1 (.slice (some ⟨g, 0, none⟩) n n) n (xs.map Value.string) ∧ Below w.heap.size w w' := by
  obtain ⟨i0, hi, hz0, hz1, hz2⟩ := info_parts infoS2
  have hl := h.1
  have HL := Lib.hid hl
  clear hl
  go_enter Try.func41, Try.ntmps41
  go_wp2_with (at_make; refine wpList_make_full _ rfl _ _ 66 rfl w.heap.size 9 i0 (.string ⟨#[]⟩) 1 Try.underlying66 hi hz0 hz1 _ _ _ _ n rfl rfl rfl rfl (by rw [hz2]; omega) (by unfold maxLen; omega) (Nat.le_refl _) ?_; intro w1 hown hg)
  have hown0 : w1.ownsRow w.heap.size 9 1 (.slice (some ⟨w.heap.size, 0, none⟩) n n) n (filled xs 0 n) := by
    have e : (madeCells (Value.cells (.string ⟨#[]⟩)) (n * 1)).toList = filled xs 0 n := by
      rw [Nat.mul_one]; exact toList_madeCells_one _ _
    rw [← e]; exact hown
  have hb1 : Below w.heap.size w w1 := (Below.refl _ _).grown hg (Nat.le_refl _) (fun k e => by cases e)
  clear hown hg
  go_loopw [4] (fun i wr => ∃ k : Nat, k ≤ n ∧ i = .int .i64 k ∧ Below w.heap.size w wr ∧ wr.ownsRow w.heap.size 9 1 (.slice (some ⟨w.heap.size, 0, none⟩) n n) n (filled xs k n)) (fun i _ => n - (intOf i).toNat)
  case atStart => exact ⟨0, Nat.zero_le _, rfl, hb1, hown0⟩
  case round =>
    obtain ⟨k, hk, rfl, hb, hown⟩ := hrel
    clear hb1 hown0
    by_cases hlt : k < n
    · obtain ⟨b, o, x, rfl, hbl, hxx, hc⟩ := h.at_ hlt
      have hcr := (hb.cell (p := ⟨b, o + k, none⟩) hbl).trans hc
      obtain ⟨u, hu⟩ := filled_at HL.out hlt
      have hcw := (hown.cellAt k (by omega)).trans hu
      have hfw := hown.frozenAt k
      have hst := (hown.stored k (.string x)).1
      rw [filled_set hxx hlt] at hst
      have hlt2 : (k : Int) < (n : Int) := by omega
      clear h hc hu hxx
      go_wp2
      go_roundw
      case rel => exact ⟨k + 1, by omega, by go_num, hb.setCell (p := ⟨w.heap.size, k, none⟩) (Nat.le_refl _) _, hst⟩
      case measure => simp [intOf]; omega
    · obtain rfl : k = n := by omega
      rw [filled_all HL.out] at hown
      clear h
      go_wp2
      go_ret
      exact ⟨w.heap.size, rfl, hown, hb⟩
end Go.Proofs.Ytdjcbfeilkepmaa.strs

/- The laws' szStringS from any number left; markText and markStringS up to 41943040, with the blocks that they leave. -/
namespace Go.Proofs.Ytdjcbfeilkepmaa.strsw
open Go.RowKit Go.Proofs.Ytdjcbfeilkepmaa.strs

theorem grownR (w : World) (r : Option Nat) : w.grownBy w r := ⟨rfl, rfl, rfl, Nat.le_refl _, fun _ _ _ => rfl⟩
theorem grown_of {w w' : World} (h : Below w.heap.size w w') (r : Option Nat) : w.grownBy w' r := ⟨h.os, h.tape, h.output, h.size, fun k hk _ => h.block k hk⟩
theorem grown_tr {a b c : World} {row : Option Nat} (h : a.grownBy b row) (k : b.grownBy c row) : a.grownBy c row :=
  ⟨k.os.trans h.os, k.tape.trans h.tape, k.output.trans h.output, Nat.le_trans h.size k.size, fun j hj hne => (k.block j (Nat.lt_of_lt_of_le hj h.size) hne).trans (h.block j hj hne)⟩
theorem minv_sizeW {k0 k : Nat} {out : ByteArray} (h : MInv k0 k out) (hk : k0 ≤ 41943040) : out.size ≤ 21 := by
  have h1 := Lib.itoa_length_le (k0 : Int) (by omega) (by omega)
  have h2 : Lib.itoa (k0 : Int) = Lib.decDigits k0 := by unfold Lib.itoa; rw [if_neg (by omega)]; simp
  rw [h2] at h1
  have h3 : out.size = out.data.toList.length := by simp [← ByteArray.size_data]
  rcases h with ⟨_, h⟩ | ⟨_, h⟩
  · rw [← h, List.length_append] at h1; omega
  · rw [← h] at h1; omega
set_option maxHeartbeats 1000000 in
theorem markTextW (k0 : Nat) (w : World) (hk : k0 ≤ 41943040) :
    Calls Try.prog 110 #[.int .i64 (k0 : Int)] w fun e w' => e = .returned (.string (mk k0)) ∧ Below w.heap.size w w' := by
  by_cases h0 : k0 = 0
  · subst h0
    have hf : mk 0 = ⟨#[109, 48]⟩ := by unfold mk; rw [Lib.decDigits_one (by omega)]; rfl
    rw [hf]
    clear hf
    go_enter Try.func110, Try.ntmps110
    go_wp2
    go_ret
    exact ⟨rfl, Below.refl _ _⟩
  · have h1 : (0 : Int) < (k0 : Int) := by omega
    go_enter Try.func110, Try.ntmps110
    go_wp2
    go_loopw [0, 3] (fun n o wr => ∃ (k : Nat) (out : ByteArray), k ≤ k0 ∧ n = .int .i64 k ∧ o = .string out ∧ MInv k0 k out ∧ Below w.heap.size w wr) (fun n _ _ => (intOf n).toNat)
    case atStart => exact ⟨k0, ⟨#[]⟩, Nat.le_refl _, rfl, rfl, .inl ⟨by omega, by simp⟩, Below.refl _ _⟩
    case round =>
      obtain ⟨k, out, hkk, rfl, rfl, hinv, hb⟩ := hrel
      have hsz := minv_sizeW hinv hk
      have HI := Lib.hid hinv
      clear hinv
      by_cases hz : 0 < k
      · have hz2 : (0 : Int) < (k : Int) := by omega
        have hcv := conv_digit wr k
        have HN := Lib.hid (minv_step (o2 := ⟨#[dgt k]⟩ ++ out) HI.out hz (by rw [aid.str_app]; rfl))
        go_wp2
        go_roundw
        case rel => exact ⟨k / 10, _, by omega, by go_num, rfl, HN.out, hb.alloc hb.size _⟩
        case measure => simp [intOf]; omega
      · obtain rfl : k = 0 := by omega
        go_wp2
        go_ret
        refine ⟨aid.ret_str (aid.str_ext ?_), hb⟩
        rcases HI.out with ⟨h, _⟩ | ⟨_, h⟩
        · omega
        · rw [aid.str_app, h]; rfl
set_option maxHeartbeats 2000000 in
theorem markW (B : Nat) (A : Option Addr) (k n c : Nat) (xs : List Value) (w : World) (hk : k + n ≤ 41943040) (hB : B ≤ w.heap.size) (h : w.ownsRow B 9 1 (.slice A n c) n xs) :
    Calls Try.prog 46 #[.slice A n c, .int .i64 (k : Int)] w fun e w' => e = .returned (.int .i64 ((k + n : Nat) : Int)) ∧ Below B w w' ∧ w.grownBy w' (Value.slice A n c).ownBlock ∧ w'.ownsRow B 9 1 (.slice A n c) n ((marks k n).map Value.string) := by
  have hl : xs.length = n := by have := h.1; omega
  go_enter Try.func46, Try.ntmps46
  go_wp2
  go_loopw [1, 5] (fun q i wr => ∃ j : Nat, j ≤ n ∧ i = .int .i64 j ∧ q = .int .i64 ((k + j : Nat) : Int) ∧ Below B w wr ∧ w.grownBy wr (Value.slice A n c).ownBlock ∧ wr.ownsRow B 9 1 (.slice A n c) n (half k j xs)) (fun _ i _ => n - (intOf i).toNat)
  case atStart => exact ⟨0, Nat.zero_le _, rfl, rfl, Below.refl _ _, grownR w _, by rw [half_zero]; exact h⟩
  case round =>
    obtain ⟨j, hj, rfl, rfl, hb, hgr, hown⟩ := hrel
    have HGR := Lib.hid hgr
    clear hgr
    have hsz := hb.size
    by_cases hlt : j < n
    · have hform : ∃ g, A = some ⟨g, 0, none⟩ ∧ B ≤ g := by
        rcases hown.2 with ⟨_, h0⟩ | ⟨g, _, _, hv, hg, _⟩
        · omega
        · injection hv with hA; exact ⟨g, hA, hg⟩
      obtain ⟨g, rfl, hBg⟩ := hform
      obtain ⟨u, hu⟩ := half_at (k := k) (xs := xs) (j := j) (by omega)
      have HS := Lib.hid (half_set (k := k) (xs := xs) (j := j) (by omega))
      have hlt2 : (j : Int) < (n : Int) := by omega
      have hm := fun w => markTextW (k + j) w (by omega)
      have e1 : ((k + (j + 1) : Nat) : Int) = ((k + j : Nat) : Int) + 1 := by omega
      have E1 := Lib.hid e1
      have HL := Lib.hid hl
      have b1 : ((k + j : Nat) : Int) ≤ 41943040 := by omega
      generalize mk (k + j) = x at *
      clear h e1 hl
      go_wp2_with (go_at_call 110; refine (hm _).mono ?_; rintro e w2 ⟨rfl, hb2⟩; have hown2 := own_.own_below hown hb2; have hc2 := (hown2.cellAt j (by omega)).trans hu; have hf2 := hown2.frozenAt j)
      have hst := (hown2.stored j (.string x)).1
      rw [HS.out] at hst
      go_roundw
      case rel => exact ⟨j + 1, by omega, by go_num, by rw [E1.out]; go_num, (hb.trans (hb2.mono (Nat.le_trans hB hsz))).setCell (p := ⟨g, j, none⟩) hBg _, lst.grown_set (grown_tr HGR.out (grown_of hb2 _)) j _, hst⟩
      case measure => simp [intOf]; omega
    · obtain rfl : j = n := by omega
      rw [half_all (by omega)] at hown
      clear h
      go_wp2
      go_ret
      exact ⟨rfl, hb, HGR.out, hown⟩
set_option maxHeartbeats 1000000 in
theorem szL (L : Int) (hL0 : 0 ≤ L) (hL1 : L ≤ 1048576) (xs : List ByteArray) (A : Option Addr) (n c : Nat) (w : World) (hn : n ≤ maxLen) (hx : ∀ x ∈ xs, x.size ≤ maxLen) (h : Rd w w.heap.size A n xs) :
    Calls Try.prog 38 #[.slice A n c, .int .i64 L] w fun e w' => ∃ r : Int, e = .returned (.int .i64 r) ∧ Small xs r ∧ -1 ≤ r ∧ w = w' := by
  unfold maxLen at hn hx
  by_cases h0 : L - (n : Int) < 0
  · clear h
    go_enter Try.func38, Try.ntmps38
    go_wp2
    go_ret
    exact ⟨-1, rfl, .inl (by omega), by omega, rfl⟩
  · have hl := h.1
    have HL := Lib.hid hl
    clear hl
    go_enter Try.func38, Try.ntmps38
    go_wp2
    go_loop [1, 5] (fun q i => ∃ (k : Nat) (r : Int), k ≤ n ∧ i = .int .i64 k ∧ q = .int .i64 r ∧ 0 ≤ r ∧ r + (weight (xs.take k) : Int) + ((n : Int) - (k : Int)) = L) (fun _ i => n - (intOf i).toNat)
    case atStart => exact ⟨0, _, Nat.zero_le _, rfl, rfl, by omega, by rw [List.take_zero, weight_nil]; omega⟩
    case round =>
      obtain ⟨k, r, hk, rfl, rfl, hr, he⟩ := hrel
      have HE := Lib.hid he
      have hr2 : r ≤ 1048576 := by omega
      clear he
      by_cases hlt : k < n
      · obtain ⟨b, o, x, rfl, _, hxx, hc⟩ := h.at_ hlt
        have hxs : x.size ≤ 2 ^ 63 - 1 := hx x (List.mem_of_getElem? hxx)
        have HW := Lib.hid (weight_take hxx)
        have hlt2 : (k : Int) < (n : Int) := by omega
        clear hx h hxx
        by_cases hneg : r - (x.size : Int) < 0
        · go_wp2
          go_ret
          exact ⟨-1, rfl, .inl (by omega), by omega, rfl⟩
        · go_wp2
          go_round
          case rel => exact ⟨k + 1, r - (x.size : Int), by omega, by go_num, by go_num, by omega, by have := HE.out; have := HW.out; omega⟩
          case measure => simp [intOf]; omega
      · obtain rfl : k = n := by omega
        have hf : weight xs ≤ 1048576 := by
          have := HE.out
          rw [List.take_of_length_le (by rw [HL.out]; exact Nat.le_refl _)] at this
          omega
        clear hx h
        go_wp2
        go_ret
        exact ⟨r, rfl, .inr ⟨hr, hf⟩, by omega, rfl⟩
end Go.Proofs.Ytdjcbfeilkepmaa.strsw

namespace Go.Proofs.Ytdjcbfeilkepmaa.fnExactReceiveAll
open Go.ChangeShapes Go.WideShapes Go.ChangeAt Go.RowKit Go.Joins Go.Proofs.Ytdjcbfeilkepmaa.ats Go.Proofs.Ytdjcbfeilkepmaa.rcv Go.Proofs.Ytdjcbfeilkepmaa.rcvm
open Go.Proofs.Ytdjcbfeilkepmaa.lst Go.Proofs.Ytdjcbfeilkepmaa.rcvd Go.Proofs.Ytdjcbfeilkepmaa.strs
open Go.ChangeMaps (open_string shut_string)
set_option linter.unusedVariables false

theorem bool_ne_self (b : Bool) : (b != b) = false := by simp
theorem int_ne_self (x : Int) : (x != x) = false := by simp
theorem at_kept {T : TypeId} {cs : Array Value} {w V V' : World} {b : Nat} {r : Option Nat} (h : ats.AtS T cs w V b) (hg : V.grownBy V' r) (hr : ∀ g, r = some g → g ≠ b ∧ w.heap.size ≤ g) : ats.AtS T cs w V' b :=
  ⟨h.1.grown hg h.1.size (fun g e => (hr g e).2), h.2.1, Nat.lt_of_lt_of_le h.2.2.1 hg.size, (hg.block b h.2.2.1 (fun e => (hr b e.symm).1 rfl)).trans h.2.2.2⟩
theorem own_ne {w : World} {B e s n b : Nat} {v : Value} {xs : List Value} {cs : Array Value} {T : TypeId} {fr : Nat × Nat} (h : w.ownsRow B e s v n xs) (hb : w.heap[b]? = some (.cells cs T fr)) (hT : e ≠ T) : v.ownBlock ≠ some b := by
  rcases h.2 with ⟨rfl, _⟩ | ⟨g, cap, cur, rfl, _, hh, _⟩
  · intro e; cases e
  · intro e1
    injection e1 with e1
    subst e1
    rw [hh] at hb
    injection hb with hb
    injection hb with _ hb
    exact hT hb

set_option maxRecDepth 100000 in
set_option maxHeartbeats 16000000 in
theorem walk (m : Int) (A : Option Addr) (c : Nat) (hs : List Hd) (A1 : Option Addr) (n1 c1 : Nat) (xs : List ByteArray) (t : Int) (w : World) (hr : RdH w w.heap.size A hs) (hn : hs.length ≤ maxLen) (w1 : IsStrs w A1 n1 xs) (w2 : (Lit.int .i64 t).wf = true) :
    Calls Try.prog 6 #[.agg #[.int .i64 m, .slice A hs.length c], .slice A1 n1 c1, .int .i64 t] w fun e w' => e = .returned (.bool true) ∧ Below w.heap.size w w' := by
  obtain ⟨hrd, hn1, hxs⟩ := w1
  clear w2
  obtain rfl : xs.length = n1 := hrd.1
  have B_0 := Lib.hid (newS 65 #[.int .i64 m, .slice A hs.length c] w)
  have HZ := Lib.hid (fun w => rcvc.szReceiver m A hs.length c w hn)
  by_cases hl : hs.length ≤ 1048576
  rotate_left
  · have HZ := HZ.out
    simp only [if_neg hl] at HZ
    have HZ := Lib.hid HZ
    clear hr hn hl hrd hn1 hxs
    generalize hs.length = n at *
    go_enter Try.func6, Try.ntmps6
    go_wp2_with fail
    refine (HZ.out _).mono ?_
    rintro e w2 ⟨rfl, hb⟩
    have hb2 := (B_0.out.old hb).1
    go_wp2_with fail
    go_ret
    exact ⟨rfl, hb2⟩
  have HZ := HZ.out
  simp only [if_pos hl] at HZ
  have HZ := Lib.hid HZ
  have d0 : decide ((1048576 : Int) - (hs.length : Int) < 0) = false := decide_eq_false (by omega)
  have SZ := Lib.hid (fun (W : World) (hb : Below w.heap.size w W) => strsw.szL (1048576 - (hs.length : Int)) (by omega) (by omega) xs A1 xs.length c1 W hn1 hxs ((hrd.below hb (Nat.le_refl _)).more hb.size))
  have HR := Lib.hid hr
  have HRD := Lib.hid hrd
  have HXS := Lib.hid hxs
  have HLR := Lib.hid hl
  clear hr hrd hxs hn
  go_enter Try.func6, Try.ntmps6
  go_wp2_with fail
  refine (HZ.out _).mono ?_
  rintro e V1 ⟨rfl, hb⟩
  have B_1 := Lib.hid (B_0.out.old hb)
  clear hb B_0
  go_wp2_with fail
  refine (SZ.out V1 B_1.out.1).mono ?_
  rintro e V2 ⟨r, rfl, hsm, hr1, rfl⟩
  generalize V1 = V2 at *
  have B_2 := B_1
  clear SZ HZ
  rcases hsm with hneg | ⟨hpos, hw⟩
  · have dn : decide (r < 0) = true := decide_eq_true hneg
    go_wp2_with fail
    go_ret
    exact ⟨rfl, B_2.out.1⟩
  · have dn : decide (r < 0) = false := decide_eq_false (by omega)
    have hr := HR.out
    have hrd := HRD.out
    have hxs := HXS.out
    have hl1 : xs.length ≤ 1048576 := by have := weight_ge xs; omega
    have TO := Lib.hid (fun (W : World) (hb : Below w.heap.size w W) => rcvc.toReceiver m hs A c W (by omega) (hr.next hb))
    have TS := Lib.hid (fun (W : World) (hb : Below w.heap.size w W) => copyS xs A1 xs.length c1 W hl1 ((hrd.below hb (Nat.le_refl _)).more hb.size))
    have SP := Lib.hid (fun (W : World) (g g' : Nat) (h : RdH W W.heap.size (some ⟨g, 0, none⟩) hs) (h' : Rd W W.heap.size (some ⟨g', 0, none⟩) xs.length xs) => rcvu.receiveAll m hs xs t g 0 hs.length xs.length (some ⟨g', 0, none⟩) W hl (fun k s hk => hxs s (List.mem_of_getElem? hk)) h h')
    have IM := Lib.hid (fun (W : World) (g g' : Nat) (h : RdH W W.heap.size (some ⟨g, 0, none⟩) hs) (h' : Rd W W.heap.size (some ⟨g', 0, none⟩) xs.length xs) => rcvv.receiveAll m hs xs t g 0 hs.length xs.length (some ⟨g', 0, none⟩) W hl h h')
    have hZ : (rcvt.raV m hs xs t).2.1.length ≤ 1048576 := rcvt.ra_le m hs xs t
    generalize (rcvt.raV m hs xs t).2.1 = Z at *
    generalize (rcvt.raV m hs xs t).1 = M at *
    generalize (rcvt.raV m hs xs t).2.2 = Q at *
    generalize rcvt.raB m hs xs.length t = O at *
    have nb := bool_ne_self O
    have nq := int_ne_self Q
    clear hr hrd hxs
    have bc0 : V2.cell? ⟨w.heap.size, 0, none⟩ = some (.int .i64 m) := B_2.out.cell 0
    have bc1 : V2.cell? ⟨w.heap.size, 1, none⟩ = some (.slice A hs.length c) := B_2.out.cell 1
    go_wp2_with fail
    refine (TO.out V2 B_2.out.1).mono ?_
    rintro e V1 ⟨grs, rfl, ors, h2⟩
    have B_3 := Lib.hid (B_2.out.old h2)
    clear B_2
    clear bc0 bc1
    have Rrs_4 := Lib.hid (RdH.of_own ors rfl)
    clear ors h2
    go_wp2_with fail
    refine (TS.out V1 B_3.out.1).mono ?_
    rintro e V5 ⟨gts, rfl, ots, h6⟩
    have B_7 := Lib.hid (B_3.out.old h6)
    have Rrs_8 := Lib.hid (Rrs_4.out.next h6)
    clear B_3 Rrs_4
    have Rts_9 := Lib.hid (Rd.of_own (n := xs.length) ots rfl)
    clear ots h6
    go_wp2_with fail
    refine (SP.out _ _ _ Rrs_8.out Rts_9.out).mono ?_
    rintro e V10 ⟨vrw, rfl, orw, h11⟩
    have B_12 := Lib.hid (B_7.out.old h11)
    have Rrs_13 := Lib.hid (Rrs_8.out.next h11)
    have Rts_14 := Lib.hid ((Rts_9.out.below h11 (Nat.le_refl _)).more (Below.size h11))
    clear B_7 Rrs_8 Rts_9
    obtain ⟨Arw, crw, rfl⟩ := lst.own_sliceZ orw
    have Rrw_15 := Lib.hid (RdH.of_own orw rfl)
    clear orw h11
    clear Rrs_13
    clear Rts_14
    have hA18 := (Below.refl V10.heap.size V10).alloc (Nat.le_refl _) (.cells #[.int .i64 M, .slice Arw Z.length crw] 71)
    have Sn_19 := Lib.hid (newS 71 #[.int .i64 M, .slice Arw Z.length crw] V10)
    have B_20 := Lib.hid (B_12.out.old hA18)
    have Rrw_21 := Lib.hid (Rrw_15.out.next hA18)
    clear B_12 Rrw_15
    clear hA18
    go_upto_region 9 with fail
    generalize V10.alloc (.cells #[.int .i64 M, .slice Arw Z.length crw] 71) = V16 at *
    generalize hqb17 : V10.heap.size = b17 at *
    clear hqb17
    have SB0 := Sn_19
    have L05 := Lib.hid (show w.heap.size ≤ V16.heap.size from Nat.le_of_lt B_20.out.2.2.1)
    have LB5 := Lib.hid (show w.heap.size < V16.heap.size from B_20.out.2.2.1)
    have LS5 := Lib.hid (show b17 < V16.heap.size from Sn_19.out.2.2.1)
    have c5_22 := Lib.hid (Below.refl V16.heap.size V16)
    have bc0 : V16.cell? ⟨w.heap.size, 0, none⟩ = some (.int .i64 m) := B_20.out.cell 0
    have bc1 : V16.cell? ⟨w.heap.size, 1, none⟩ = some (.slice A hs.length c) := B_20.out.cell 1
    go_wp2_with fail
    refine (TO.out V16 B_20.out.1).mono ?_
    rintro e V23 ⟨grx, rfl, orx, h24⟩
    have B_25 := Lib.hid (B_20.out.old h24)
    have S_26 := Lib.hid (Sn_19.out.old h24)
    have c5_27 := Lib.hid (c5_22.out.trans (Below.mono h24 c5_22.out.size))
    clear B_20 Sn_19 c5_22
    clear bc0 bc1
    have Rrx_28 := Lib.hid (RdH.of_own orx rfl)
    have Orx_29 := Lib.hid (orx)
    clear orx h24
    have hA32 := (Below.refl V23.heap.size V23).alloc (Nat.le_refl _) (.cells #[.int .i64 m, .slice (some ⟨grx, 0, none⟩) hs.length hs.length] 71)
    have Xn_33 := Lib.hid (posx.at_next 71 #[.int .i64 m, .slice (some ⟨grx, 0, none⟩) hs.length hs.length] c5_27.out)
    have B_34 := Lib.hid (B_25.out.old hA32)
    have S_35 := Lib.hid (S_26.out.old hA32)
    have c5_36 := Lib.hid (c5_27.out.trans (Below.mono hA32 c5_27.out.size))
    have Rrx_37 := Lib.hid (Rrx_28.out.next hA32)
    have Orx_38 := Lib.hid (own_.own_below Orx_29.out hA32)
    clear B_25 S_26 c5_27 Rrx_28 Orx_29
    clear hA32
    go_upto_region 10 with fail
    generalize V23.alloc (.cells #[.int .i64 m, .slice (some ⟨grx, 0, none⟩) hs.length hs.length] 71) = V30 at *
    generalize hqb31 : V23.heap.size = b31 at *
    clear hqb31
    have L57 := Lib.hid (show V16.heap.size ≤ V30.heap.size from c5_36.out.size)
    have LX7 := Lib.hid (show grx < V30.heap.size from own_row_lt Orx_38.out grx rfl)
    have c7_39 := Lib.hid (Below.refl V30.heap.size V30)
    go_wp2_with fail
    refine (TS.out V30 B_34.out.1).mono ?_
    rintro e V40 ⟨gtx, rfl, otx, h41⟩
    have B_42 := Lib.hid (B_34.out.old h41)
    have S_43 := Lib.hid (S_35.out.old h41)
    have c5_44 := Lib.hid (c5_36.out.trans (Below.mono h41 c5_36.out.size))
    have Rrx_45 := Lib.hid (Rrx_37.out.next h41)
    have Orx_46 := Lib.hid (own_.own_below Orx_38.out h41)
    have X_47 := Lib.hid (Xn_33.out.old h41)
    have c7_48 := Lib.hid (c7_39.out.trans (Below.mono h41 c7_39.out.size))
    clear B_34 S_35 c5_36 Rrx_37 Orx_38 Xn_33 c7_39
    have Rtx_49 := Lib.hid (Rd.of_own (n := xs.length) otx rfl)
    have Otx_50 := Lib.hid (otx)
    clear otx h41
    have L78 := Lib.hid (show V30.heap.size ≤ V40.heap.size from c7_48.out.size)
    have LT8 := Lib.hid (show gtx < V40.heap.size from own_row_lt Otx_50.out gtx rfl)
    clear c7_48
    have xc0 : V40.cell? ⟨b31, 0, none⟩ = some (.int .i64 m) := X_47.out.cell 0
    have xc1 : V40.cell? ⟨b31, 1, none⟩ = some (.slice (some ⟨grx, 0, none⟩) hs.length hs.length) := X_47.out.cell 1
    go_wp2_with fail
    refine (IM.out _ _ _ Rrx_45.out Rtx_49.out).mono ?_
    rintro e V51 ⟨vrg, rfl, org, h52⟩
    have L89 := Lib.hid (Below.size h52)
    have B_53 := Lib.hid (B_42.out.old h52)
    have S_54 := Lib.hid (S_43.out.old h52)
    have c5_55 := Lib.hid (c5_44.out.trans (Below.mono h52 c5_44.out.size))
    have Rrx_56 := Lib.hid (Rrx_45.out.next h52)
    have Orx_57 := Lib.hid (own_.own_below Orx_46.out h52)
    have X_58 := Lib.hid (X_47.out.old h52)
    have Rtx_59 := Lib.hid ((Rtx_49.out.below h52 (Nat.le_refl _)).more (Below.size h52))
    have Otx_60 := Lib.hid (own_.own_below Otx_50.out h52)
    clear B_42 S_43 c5_44 Rrx_45 Orx_46 X_47 Rtx_49 Otx_50
    obtain ⟨Arg, crg, rfl⟩ := lst.own_sliceZ org
    have Rrg_61 := Lib.hid (RdH.of_own org rfl)
    have Org_62 := Lib.hid (org)
    clear org h52
    clear Rrg_61
    clear xc0 xc1
    have hA65 := (Below.refl V51.heap.size V51).alloc (Nat.le_refl _) (.cells #[.int .i64 M, .slice Arg Z.length crg] 71)
    have Gn_66 := Lib.hid (posx.at_next 71 #[.int .i64 M, .slice Arg Z.length crg] c5_55.out)
    have B_67 := Lib.hid (B_53.out.old hA65)
    have S_68 := Lib.hid (S_54.out.old hA65)
    have c5_69 := Lib.hid (c5_55.out.trans (Below.mono hA65 c5_55.out.size))
    have Rrx_70 := Lib.hid (Rrx_56.out.next hA65)
    have Orx_71 := Lib.hid (own_.own_below Orx_57.out hA65)
    have X_72 := Lib.hid (X_58.out.old hA65)
    have Rtx_73 := Lib.hid ((Rtx_59.out.below hA65 (Nat.le_refl _)).more (Below.size hA65))
    have Otx_74 := Lib.hid (own_.own_below Otx_60.out hA65)
    have Org_75 := Lib.hid (own_.own_below Org_62.out hA65)
    clear B_53 S_54 c5_55 Rrx_56 Orx_57 X_58 Rtx_59 Otx_60 Org_62
    clear hA65
    have L8G := Lib.hid (show V40.heap.size ≤ V51.heap.size from L89.out)
    go_upto_region 12 with fail
    generalize V51.alloc (.cells #[.int .i64 M, .slice Arg Z.length crg] 71) = V63 at *
    generalize hqb64 : V51.heap.size = b64 at *
    clear hqb64
    have gc0 : V63.cell? ⟨b64, 0, none⟩ = some (.int .i64 M) := Gn_66.out.cell 0
    have gc1 : V63.cell? ⟨b64, 1, none⟩ = some (.slice Arg Z.length crg) := Gn_66.out.cell 1
    have sc0 : V63.cell? ⟨b17, 0, none⟩ = some (.int .i64 M) := S_68.out.cell 0
    have sc1 : V63.cell? ⟨b17, 1, none⟩ = some (.slice Arw Z.length crw) := S_68.out.cell 1
    have HE76 := Lib.hid (rcvc.eqReceiver M Z Arg Arw crg crw V63 (by omega) (RdH.of_own Org_75.out rfl) (Rrw_21.out.next c5_69.out))
    go_wp2_with fail
    refine (HE76.out).mono ?_
    rintro e V77 ⟨rfl, h78⟩
    have B_79 := Lib.hid (B_67.out.old h78)
    have S_80 := Lib.hid (S_68.out.old h78)
    have c5_81 := Lib.hid (c5_69.out.trans (Below.mono h78 c5_69.out.size))
    have Rrx_82 := Lib.hid (Rrx_70.out.next h78)
    have Orx_83 := Lib.hid (own_.own_below Orx_71.out h78)
    have X_84 := Lib.hid (X_72.out.old h78)
    have Rtx_85 := Lib.hid ((Rtx_73.out.below h78 (Nat.le_refl _)).more (Below.size h78))
    have Otx_86 := Lib.hid (own_.own_below Otx_74.out h78)
    have Org_87 := Lib.hid (own_.own_below Org_75.out h78)
    have G_88 := Lib.hid (Gn_66.out.old h78)
    clear B_67 S_68 c5_69 Rrx_70 Orx_71 X_72 Rtx_73 Otx_74 Org_75 Gn_66
    clear h78 HE76 gc0 gc1 sc0 sc1
    go_upto_region 14 with fail
    have CS := Lib.hid (show ∀ WZ : World, Below V77.heap.size V77 WZ → World.cell? WZ ⟨w.heap.size, 0, none⟩ = some (.int .i64 m) ∧ World.cell? WZ ⟨w.heap.size, 1, none⟩ = some (.slice A hs.length c) ∧ World.cell? WZ ⟨b31, 0, none⟩ = some (.int .i64 m) ∧ World.cell? WZ ⟨b31, 1, none⟩ = some (.slice (some ⟨grx, 0, none⟩) hs.length hs.length) from fun WZ hz => ⟨posx.at_cell (B_79.out.old hz) 0 (.int .i64 m) rfl, posx.at_cell (B_79.out.old hz) 1 (.slice A hs.length c) rfl, posx.at_cell (X_84.out.old hz) 0 (.int .i64 m) rfl, posx.at_cell (X_84.out.old hz) 1 (.slice (some ⟨grx, 0, none⟩) hs.length hs.length) rfl⟩)
    have TQ := Lib.hid (fun (WZ : World) (hz : Below V77.heap.size V77 WZ) => TO.out WZ (B_79.out.old hz).1)
    have EQ := Lib.hid (fun (WZ : World) (g : Nat) (hz : Below V77.heap.size V77 WZ) (h : RdH WZ WZ.heap.size (some ⟨g, 0, none⟩) hs) => rcvc.eqReceiver m hs (some ⟨grx, 0, none⟩) (some ⟨g, 0, none⟩) hs.length hs.length WZ (by omega) (Rrx_82.out.next hz) h)
    go_cut [72] from 68 to 72 (fun p wz => p = .bool false ∧ Below V77.heap.size V77 wz)
    case first =>
      go_region_held3 (fun w' => World.cell? w' ⟨w.heap.size, 0, none⟩ = some (.int .i64 m) ∧ World.cell? w' ⟨w.heap.size, 1, none⟩ = some (.slice A hs.length c) ∧ World.cell? w' ⟨b31, 0, none⟩ = some (.int .i64 m) ∧ World.cell? w' ⟨b31, 1, none⟩ = some (.slice (some ⟨grx, 0, none⟩) hs.length hs.length)) (first
        | exact CS.out _ (Below.refl V77.heap.size V77).drew
        | exact CS.out _ (by assumption)
        | go_keep) (first
        | (go_at_call 40; (with_reducible refine (TQ.out _ (by first | exact (Below.refl V77.heap.size V77).drew | assumption)).mono ?_); rintro e w' ⟨g, rfl, ho, hb⟩
           have hbl := posx.bl_next (V := V77) (by first | exact (Below.refl V77.heap.size V77).drew | assumption) hb
           have hrd := RdH.of_own ho rfl
           clear ho hb)
        | (go_at_call 43; (with_reducible refine (EQ.out _ _ (by assumption) (by assumption)).mono ?_); rintro e w' ⟨rfl, hb⟩
           have hbl2 := posx.bl_next (V := V77) (by assumption) hb
           clear hb))
      all_goals (go_wp2_with fail; go_meet; exact ⟨rfl, by assumption⟩)
    case rest =>
      obtain ⟨rfl, hg⟩ := hcut
      clear CS TQ EQ
      have B_90 := Lib.hid (B_79.out.old hg)
      have S_91 := Lib.hid (S_80.out.old hg)
      have c5_92 := Lib.hid (c5_81.out.trans (Below.mono hg c5_81.out.size))
      have Rrx_93 := Lib.hid (Rrx_82.out.next hg)
      have Orx_94 := Lib.hid (own_.own_below Orx_83.out hg)
      have X_95 := Lib.hid (X_84.out.old hg)
      have Rtx_96 := Lib.hid ((Rtx_85.out.below hg (Nat.le_refl _)).more (Below.size hg))
      have Otx_97 := Lib.hid (own_.own_below Otx_86.out hg)
      have Org_98 := Lib.hid (own_.own_below Org_87.out hg)
      have G_99 := Lib.hid (G_88.out.old hg)
      clear B_79 S_80 c5_81 Rrx_82 Orx_83 X_84 Rtx_85 Otx_86 Org_87 G_88
      clear hg
      generalize wc = V89 at *
      clear Rrx_93
      go_wp2_with fail
      refine (TS.out V89 B_90.out.1).mono ?_
      rintro e V100 ⟨gty, rfl, oty, h101⟩
      have B_102 := Lib.hid (B_90.out.old h101)
      have S_103 := Lib.hid (S_91.out.old h101)
      have c5_104 := Lib.hid (c5_92.out.trans (Below.mono h101 c5_92.out.size))
      have Orx_105 := Lib.hid (own_.own_below Orx_94.out h101)
      have X_106 := Lib.hid (X_95.out.old h101)
      have Rtx_107 := Lib.hid ((Rtx_96.out.below h101 (Nat.le_refl _)).more (Below.size h101))
      have Otx_108 := Lib.hid (own_.own_below Otx_97.out h101)
      have Org_109 := Lib.hid (own_.own_below Org_98.out h101)
      have G_110 := Lib.hid (G_99.out.old h101)
      clear B_90 S_91 c5_92 Orx_94 X_95 Rtx_96 Otx_97 Org_98 G_99
      have Rty_111 := Lib.hid (Rd.of_own (n := xs.length) oty rfl)
      clear oty h101
      have HE112 := Lib.hid (Go.Proofs.Ytdjcbfeilkepmaa.strs.eq_same xs (some ⟨gtx, 0, none⟩) (some ⟨gty, 0, none⟩) xs.length xs.length xs.length V100 (by omega) Rtx_107.out Rty_111.out)
      go_wp2_with fail
      refine HE112.out.mono ?_
      rintro e wx ⟨rfl, j113, rfl⟩
      have hD115 := aid.below_drewN (Below.refl V100.heap.size V100) j113
      have B_116 := Lib.hid (B_102.out.old hD115)
      have S_117 := Lib.hid (S_103.out.old hD115)
      have c5_118 := Lib.hid (c5_104.out.trans (Below.mono hD115 c5_104.out.size))
      have Orx_119 := Lib.hid (own_.own_below Orx_105.out hD115)
      have X_120 := Lib.hid (X_106.out.old hD115)
      have Rtx_121 := Lib.hid ((Rtx_107.out.below hD115 (Nat.le_refl _)).more (Below.size hD115))
      have Otx_122 := Lib.hid (own_.own_below Otx_108.out hD115)
      have Org_123 := Lib.hid (own_.own_below Org_109.out hD115)
      have G_124 := Lib.hid (G_110.out.old hD115)
      have Rty_125 := Lib.hid ((Rty_111.out.below hD115 (Nat.le_refl _)).more (Below.size hD115))
      clear B_102 S_103 c5_104 Orx_105 X_106 Rtx_107 Otx_108 Org_109 G_110 Rty_111
      clear hD115 HE112
      generalize V100.drewN j113 = V114 at *
      clear Rtx_121
      clear Rty_125
      have xc0 : V114.cell? ⟨b31, 0, none⟩ = some (.int .i64 m) := X_120.out.cell 0
      have xc1 : V114.cell? ⟨b31, 1, none⟩ = some (.slice (some ⟨grx, 0, none⟩) hs.length hs.length) := X_120.out.cell 1
      go_wp2_with fail
      refine (rcvd.markR V16.heap.size m (some ⟨grx, 0, none⟩) 1 hs.length hs V114 c5_118.out.size (by omega) Orx_119.out).mono ?_
      rintro e V126 ⟨rfl, hb9, hg9, -⟩
      have B_127 := Lib.hid (at_low B_116.out hb9 LB5.out L05.out)
      clear B_116
      have SB := S_117
      have G_128 := Lib.hid (at_kept G_124.out hg9 (fun g e => ⟨fun e2 => own_ne Orx_119.out G_124.out.2.2.2 (by decide) (e.trans (by rw [e2])), own_.row_ge Orx_119.out g e⟩))
      clear G_124
      have Org_129 := Lib.hid (own_kept Org_123.out hg9 (fun g e => by simp [Value.ownBlock] at e; subst e; exact Nat.lt_of_lt_of_le LX7.out L78.out))
      clear Org_123
      have Otx_130 := Lib.hid (own_kept Otx_122.out hg9 (fun g e => by simp [Value.ownBlock] at e; subst e; exact LX7.out))
      clear Otx_122
      have c5_131 := Lib.hid (c5_118.out.trans hb9)
      clear c5_118
      clear X_120
      clear Orx_119
      clear hb9 hg9 SB xc0 xc1
      go_wp2_with fail
      refine (strsw.markW V30.heap.size (some ⟨gtx, 0, none⟩) (1 + hs.length * 10) xs.length xs.length (xs.map Value.string) V126 (by omega) (Nat.le_trans L78.out (Nat.le_trans (Nat.le_of_lt (Nat.lt_of_le_of_lt L8G.out G_128.out.2.2.1)) (Nat.le_refl _))) Otx_130.out).mono ?_
      rintro e V132 ⟨rfl, hb9, hg9, -⟩
      have B_133 := Lib.hid (at_low B_127.out hb9 (Nat.lt_of_lt_of_le LB5.out L57.out) (Nat.le_trans L05.out L57.out))
      clear B_127
      have G_134 := Lib.hid (at_kept G_128.out hg9 (fun g e => ⟨fun e2 => own_ne Otx_130.out G_128.out.2.2.2 (by decide) (e.trans (by rw [e2])), Nat.le_trans L57.out (own_.row_ge Otx_130.out g e)⟩))
      clear G_128
      have Org_135 := Lib.hid (own_kept Org_129.out hg9 (fun g e => by simp [Value.ownBlock] at e; subst e; exact LT8.out))
      clear Org_129
      have c5_136 := Lib.hid (c5_131.out.trans (hb9.mono L57.out))
      clear c5_131
      clear Otx_130
      clear hb9 hg9
      have K8 : decide ((((1 + hs.length * 10) + xs.length : Nat) : Int) < 0) = false := decide_eq_false (by omega)
      have SX := Lib.hid (SB0.out.old c5_136.out)
      have gc0 : V132.cell? ⟨b64, 0, none⟩ = some (.int .i64 M) := G_134.out.cell 0
      have gc1 : V132.cell? ⟨b64, 1, none⟩ = some (.slice Arg Z.length crg) := G_134.out.cell 1
      have sc0 : V132.cell? ⟨b17, 0, none⟩ = some (.int .i64 M) := SX.out.cell 0
      have sc1 : V132.cell? ⟨b17, 1, none⟩ = some (.slice Arw Z.length crw) := SX.out.cell 1
      have HE137 := Lib.hid (rcvc.eqReceiver M Z Arg Arw crg crw V132 (by omega) (RdH.of_own Org_135.out rfl) (Rrw_21.out.next c5_136.out))
      go_wp2_with fail
      refine (HE137.out).mono ?_
      rintro e V138 ⟨rfl, h139⟩
      have B_140 := Lib.hid (B_133.out.old h139)
      have c5_141 := Lib.hid (c5_136.out.trans (Below.mono h139 c5_136.out.size))
      have Org_142 := Lib.hid (own_.own_below Org_135.out h139)
      have G_143 := Lib.hid (G_134.out.old h139)
      have S_144 := Lib.hid (SX.out.old h139)
      clear B_133 c5_136 Org_135 G_134 SX
      clear h139 HE137 gc0 gc1 sc0 sc1
      have gc0 : V138.cell? ⟨b64, 0, none⟩ = some (.int .i64 M) := G_143.out.cell 0
      have gc1 : V138.cell? ⟨b64, 1, none⟩ = some (.slice Arg Z.length crg) := G_143.out.cell 1
      go_wp2_with fail
      refine (rcvd.markR V40.heap.size M Arg 1 crg Z V138 (Nat.le_of_lt (Nat.lt_of_le_of_lt L8G.out G_143.out.2.2.1)) (by omega) Org_142.out).mono ?_
      rintro e V145 ⟨rfl, hb9, hg9, ho9⟩
      have RM := Lib.hid (RdH.of_own ho9 (rcvd.marksH_length 1 Z.length).symm)
      have B_146 := Lib.hid (at_low B_140.out hb9 (Nat.lt_of_lt_of_le LB5.out (Nat.le_trans L57.out L78.out)) (Nat.le_trans L05.out (Nat.le_trans L57.out L78.out)))
      clear B_140
      have G_147 := Lib.hid (at_kept G_143.out hg9 (fun g e => ⟨fun e2 => own_ne Org_142.out G_143.out.2.2.2 (by decide) (e.trans (by rw [e2])), Nat.le_trans (Nat.le_trans L57.out L78.out) (own_.row_ge Org_142.out g e)⟩))
      clear G_143
      have c5_148 := Lib.hid (c5_141.out.trans (hb9.mono (Nat.le_trans L57.out L78.out)))
      clear c5_141
      clear Org_142
      clear S_144
      clear hb9 hg9 ho9 gc0 gc1
      have gc0 : V145.cell? ⟨b64, 0, none⟩ = some (.int .i64 M) := G_147.out.cell 0
      have gc1 : V145.cell? ⟨b64, 1, none⟩ = some (.slice Arg Z.length crg) := G_147.out.cell 1
      go_wp2_with fail
      refine (rcvd.heldR M Arg 1 Z.length crg V145 (by omega) RM.out).mono ?_
      rintro e V149 ⟨rfl, h150⟩
      have B_151 := Lib.hid (B_146.out.old h150)
      have c5_152 := Lib.hid (c5_148.out.trans (Below.mono h150 c5_148.out.size))
      have G_153 := Lib.hid (G_147.out.old h150)
      have RM_154 := Lib.hid (RM.out.next h150)
      clear B_146 c5_148 G_147 RM
      clear h150 gc0 gc1
      have K11 : decide (((1 + Z.length * 10 : Nat) : Int) < 0) = false := decide_eq_false (by omega)
      have K12 : (((1 + Z.length * 10 : Nat) : Int) != ((1 + Z.length * 10 : Nat) : Int)) = false := int_ne_self _
      have bc0 : V149.cell? ⟨w.heap.size, 0, none⟩ = some (.int .i64 m) := B_151.out.cell 0
      have bc1 : V149.cell? ⟨w.heap.size, 1, none⟩ = some (.slice A hs.length c) := B_151.out.cell 1
      go_wp2_with fail
      refine (TO.out V149 B_151.out.1).mono ?_
      rintro e V155 ⟨gry, rfl, ory, h156⟩
      have B_157 := Lib.hid (B_151.out.old h156)
      have c5_158 := Lib.hid (c5_152.out.trans (Below.mono h156 c5_152.out.size))
      have G_159 := Lib.hid (G_153.out.old h156)
      have RM_160 := Lib.hid (RM_154.out.next h156)
      clear B_151 c5_152 G_153 RM_154
      clear bc0 bc1
      have Rry_161 := Lib.hid (RdH.of_own ory rfl)
      clear ory h156
      go_wp2_with fail
      refine (TS.out V155 B_157.out.1).mono ?_
      rintro e V162 ⟨gtz, rfl, otz, h163⟩
      have B_164 := Lib.hid (B_157.out.old h163)
      have c5_165 := Lib.hid (c5_158.out.trans (Below.mono h163 c5_158.out.size))
      have G_166 := Lib.hid (G_159.out.old h163)
      have RM_167 := Lib.hid (RM_160.out.next h163)
      have Rry_168 := Lib.hid (Rry_161.out.next h163)
      clear B_157 c5_158 G_159 RM_160 Rry_161
      have Rtz_169 := Lib.hid (Rd.of_own (n := xs.length) otz rfl)
      clear otz h163
      go_wp2_with fail
      refine (IM.out _ _ _ Rry_168.out Rtz_169.out).mono ?_
      rintro e V170 ⟨vrh, rfl, orh, h171⟩
      have B_172 := Lib.hid (B_164.out.old h171)
      have c5_173 := Lib.hid (c5_165.out.trans (Below.mono h171 c5_165.out.size))
      have G_174 := Lib.hid (G_166.out.old h171)
      have RM_175 := Lib.hid (RM_167.out.next h171)
      have Rry_176 := Lib.hid (Rry_168.out.next h171)
      have Rtz_177 := Lib.hid ((Rtz_169.out.below h171 (Nat.le_refl _)).more (Below.size h171))
      clear B_164 c5_165 G_166 RM_167 Rry_168 Rtz_169
      obtain ⟨Arh, crh, rfl⟩ := lst.own_sliceZ orh
      have Rrh_178 := Lib.hid (RdH.of_own orh rfl)
      clear orh h171
      clear Rry_176
      clear Rtz_177
      have hA181 := (Below.refl V170.heap.size V170).alloc (Nat.le_refl _) (.cells #[.int .i64 M, .slice Arh Z.length crh] 71)
      have Hn_182 := Lib.hid (newS 71 #[.int .i64 M, .slice Arh Z.length crh] V170)
      have B_183 := Lib.hid (B_172.out.old hA181)
      have c5_184 := Lib.hid (c5_173.out.trans (Below.mono hA181 c5_173.out.size))
      have G_185 := Lib.hid (G_174.out.old hA181)
      have RM_186 := Lib.hid (RM_175.out.next hA181)
      have Rrh_187 := Lib.hid (Rrh_178.out.next hA181)
      clear B_172 c5_173 G_174 RM_175 Rrh_178
      clear hA181
      go_upto_region 32 with fail
      generalize V170.alloc (.cells #[.int .i64 M, .slice Arh Z.length crh] 71) = V179 at *
      generalize hqb180 : V170.heap.size = b180 at *
      clear hqb180
      have SY := Lib.hid (SB0.out.old c5_184.out)
      have hc0 : V179.cell? ⟨b180, 0, none⟩ = some (.int .i64 M) := Hn_182.out.cell 0
      have hc1 : V179.cell? ⟨b180, 1, none⟩ = some (.slice Arh Z.length crh) := Hn_182.out.cell 1
      have sc0 : V179.cell? ⟨b17, 0, none⟩ = some (.int .i64 M) := SY.out.cell 0
      have sc1 : V179.cell? ⟨b17, 1, none⟩ = some (.slice Arw Z.length crw) := SY.out.cell 1
      have HE188 := Lib.hid (rcvc.eqReceiver M Z Arh Arw crh crw V179 (by omega) (Rrh_187.out) (Rrw_21.out.next c5_184.out))
      go_wp2_with fail
      refine (HE188.out).mono ?_
      rintro e V189 ⟨rfl, h190⟩
      have B_191 := Lib.hid (B_183.out.old h190)
      have c5_192 := Lib.hid (c5_184.out.trans (Below.mono h190 c5_184.out.size))
      have G_193 := Lib.hid (G_185.out.old h190)
      have RM_194 := Lib.hid (RM_186.out.next h190)
      have Rrh_195 := Lib.hid (Rrh_187.out.next h190)
      have H_196 := Lib.hid (Hn_182.out.old h190)
      have S_197 := Lib.hid (SY.out.old h190)
      clear B_183 c5_184 G_185 RM_186 Rrh_187 Hn_182 SY
      clear h190 HE188 hc0 hc1 sc0 sc1
      have gc0 : V189.cell? ⟨b64, 0, none⟩ = some (.int .i64 M) := G_193.out.cell 0
      have gc1 : V189.cell? ⟨b64, 1, none⟩ = some (.slice Arg Z.length crg) := G_193.out.cell 1
      go_wp2_with fail
      refine (rcvd.heldR M Arg 1 Z.length crg V189 (by omega) RM_194.out).mono ?_
      rintro e V198 ⟨rfl, h199⟩
      have B_200 := Lib.hid (B_191.out.old h199)
      have c5_201 := Lib.hid (c5_192.out.trans (Below.mono h199 c5_192.out.size))
      have G_202 := Lib.hid (G_193.out.old h199)
      have RM_203 := Lib.hid (RM_194.out.next h199)
      have Rrh_204 := Lib.hid (Rrh_195.out.next h199)
      have H_205 := Lib.hid (H_196.out.old h199)
      have S_206 := Lib.hid (S_197.out.old h199)
      clear B_191 c5_192 G_193 RM_194 Rrh_195 H_196 S_197
      clear h199 gc0 gc1
      go_wp2_with fail
      go_ret
      exact ⟨rfl, B_200.out.1⟩


theorem own : ownKnob Try.prog.godebug = none := by kernel_rfl
theorem laidOut : laidOutB Try.prog = true := by kernel_rfl

set_option maxRecDepth 100000 in
theorem lifted (os : Os) (started : os.Started) (H : Type) (enc : TypeId × Value → H) :
    ReturnsInHanded {} Try.checked os 6 .any (Rows.fnExactReceiveAllSpec.pre6 enc Try.prog Try.f6 Rows.fnExactReceiveAllRow.domain false) (Rows.fnExactReceiveAllSpec.post enc Try.prog Try.f6 false true false false) := by
  refine returnsInHanded_of_change (C := Try.checked) own started (by kernel_rfl) Try.func6
    (ChangeSpec.witness6 (enc := enc) (C := Try.checked) false ⟨#[], #[.agg #[.int .i64 0, .slice none 0 0], .slice none 0 0, .int .i64 0], []⟩ 8 (by kernel_rfl) (by kernel_rfl) (by kernel_rfl) (by kernel_rfl)) ?_
  intro W base args ds gs before hval0 hW hcnd _
  have hval : ∀ (j : Nat) t v, Try.f6.params[j]? = some t → args[j]? = some v → Value.okWide Try.prog W .any base t v := hval0
  have hW' := hW
  obtain ⟨p, q, hA0, hV, rfl, hfz, hnd⟩ := hW
  have hA : DataW.TrodAll enc Try.prog W 0 (fun _ => true) true Try.f6.params.toList args.toList ds p := hA0
  rw [Try.params6] at hA hval
  obtain ⟨v0, vs0, d0, ds0, p0, q0, hargs, rfl, rfl, h0, r0⟩ := trodAll_cons hA
  obtain ⟨v1, vs1, d1, ds1, p1, q1, rfl, rfl, rfl, h1, r1⟩ := trodAll_cons r0
  obtain ⟨v2, vs2, d2, ds2, p2, q2, rfl, rfl, rfl, h2, r2⟩ := trodAll_cons r1
  obtain ⟨rfl, rfl, rfl⟩ := trodAll_nil r2
  obtain rfl : args = #[v0, v1, v2] := by cases args; simp_all
  obtain ⟨rfl, rfl⟩ := trodVars_none hV
  have k0 := h0
  have lt0 : ∀ x ∈ p0, x.block < W.heap.size := by obtain ⟨m, hm⟩ := k0; exact DataW.trod_lt m _ _ _ hm
  obtain ⟨m0, a0, c0, z0, rfl, w0, n0⟩ := rcvo.open_receiver (hval 0 65 v0 rfl rfl) h0
  obtain ⟨a1, len1, cap1, rfl⟩ := okWide_slice Try.underlying66 (hval 1 66 v1 rfl rfl)
  have k1 := h1
  have lt1 : ∀ x ∈ p1, x.block < W.heap.size := by obtain ⟨m, hm⟩ := k1; exact DataW.trod_lt m _ _ _ hm
  obtain ⟨z1, w1⟩ : ∃ xs, strs.IsStrs W a1 len1 xs := by
    obtain ⟨fuel, hf⟩ := h1
    rcases open_strings Try.underlying66 Try.underlying9 (by kernel_rfl) hf with ⟨hcs, _⟩ | ⟨x, l, c, ss, hcs, _, hl, hm, hlen, _, hcell, hws⟩
    · simp [Value.cells] at hcs
      obtain ⟨rfl, rfl, rfl⟩ := hcs
      exact ⟨[], strs.isStrs_nil W⟩
    · simp [Value.cells] at hcs
      obtain ⟨rfl, rfl, rfl⟩ := hcs
      exact ⟨_, strs.isStrs_of hl hm (by simpa using hlen) hcell hws⟩
  obtain ⟨a2, rfl, rfl, rfl, w2⟩ := open_int Try.underlying3 (hval 2 3 v2 rfl rfl) h2
  clear hA0 hval0
  refine (walk m0 a0 c0 z0 a1 len1 cap1 z1 a2 W w0 n0 w1 w2).mono fun e W' ⟨he, bel⟩ => ?_
  subst he
  exact ⟨_, rfl, _, _, _, [], _, [], hW', trodAll_mk1 (shut_bool Try.underlying4 _), (trodAll_cons_mk (Below.trod laidOut (by kernel_rfl) (of_decide_eq_true (by kernel_rfl)) k0 bel lt0) (trodAll_cons_mk (Below.trod laidOut (by kernel_rfl) (of_decide_eq_true (by kernel_rfl)) k1 bel lt1) (trodAll_cons_mk (shut_int Try.underlying3 w2) trodAll_mk0))), rfl, bel.frame _, fun h => by cases h⟩

theorem over : Rows.fnExactReceiveAllRow.holds Try.pinned (OpenSpec.ofChange Rows.fnExactReceiveAllSpec) :=
  OpenClaim.holds_of_wide 6 Try.f6 rfl rfl rfl rfl rfl rfl rfl ⟨rfl, rfl, rfl, rfl, rfl⟩ rfl rfl rfl rfl rfl (by kernel_rfl) Try.func6 (by kernel_rfl)
    (of_decide_eq_true (by kernel_rfl)) (by unfold Func.isWrapper; first | (rw [if_pos (by decide +kernel)]; kernel_rfl) | (rw [if_neg (by decide +kernel)]; exact ⟨rfl, rfl⟩))
    (fun os started H enc _ => lifted os started H enc)

theorem proved : Rows.FnExactReceiveAllSaid :=
  over
#print axioms proved
end Go.Proofs.Ytdjcbfeilkepmaa.fnExactReceiveAll
