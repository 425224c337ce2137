/- An argument that is a receiver (a minute and a slice of structs with structs in them), opened: its list reads as a list of what is heard. -/
import Derived.Test.YtelkflgmjfmadaaRcvM
import Derived.Deep.Slices
import Derived.Deep.Fields
import Derived.ChangeSame
import Derived.Lib.SmallJoins
namespace Go.Proofs.Ytelkflgmjfmadaa.rcvo
open Go.RowKit Go.ChangeShapes Go.WideShapes Go.Deep Go.Joins Go.Proofs.Ytelkflgmjfmadaa.rcv Go.Proofs.Ytelkflgmjfmadaa.rcvm

section
variable {H : Type} {enc : TypeId × Value → H} {w : World} {base : Nat} {spare : Nat → Bool} {held : Bool}
theorem one_int {fuel : Nat} {c : Value} {x : DataW H × List MemPlace} (h : DataW.trod enc Try.prog w base spare held fuel 3 [c] = some x) : ∃ z, c = .int .i64 z := by
  obtain ⟨z, e, -, -⟩ := DataW.trod_int Try.underlying3 h
  exact ⟨z, by simpa using e⟩
theorem one_bool {fuel : Nat} {c : Value} {x : DataW H × List MemPlace} (h : DataW.trod enc Try.prog w base spare held fuel 4 [c] = some x) : ∃ z, c = .bool z := by
  obtain ⟨z, e, -⟩ := DataW.trod_bool Try.underlying4 h
  exact ⟨z, by simpa using e⟩
theorem cells_report : Try.prog.cellsOf 139 = 3 := by kernel_rfl
theorem cells_heard : Try.prog.cellsOf 141 = 10 := by kernel_rfl
theorem cells_int : Try.prog.cellsOf 3 = 1 := by kernel_rfl
theorem cells_bool : Try.prog.cellsOf 4 = 1 := by kernel_rfl
set_option maxRecDepth 100000 in
theorem one_report {fuel : Nat} {c0 c1 c2 : Value} {x : DataW H × List MemPlace} (h : DataW.trod enc Try.prog w base spare held fuel 139 [c0, c1, c2] = some x) : ∃ o a b, c0 = .bool o ∧ c1 = .int .i64 a ∧ c2 = .int .i64 b := by
  obtain ⟨xs, n, _, _, hlen, hxs, hf⟩ := DataW.trod_struct Try.underlying139 h
  have h0 : DataW.trod enc Try.prog w base spare held n 4 (([c0, c1, c2].drop 0).take (Try.prog.cellsOf 4)) = xs[0]? := hf 0 _ rfl
  have h1 : DataW.trod enc Try.prog w base spare held n 3 (([c0, c1, c2].drop 1).take (Try.prog.cellsOf 3)) = xs[1]? := hf 1 _ rfl
  have h2 : DataW.trod enc Try.prog w base spare held n 3 (([c0, c1, c2].drop 2).take (Try.prog.cellsOf 3)) = xs[2]? := hf 2 _ rfl
  rw [cells_bool] at h0
  rw [cells_int] at h1 h2
  have l : xs.length = 3 := hxs
  have g0 : xs[0]? = some (xs[0]'(by omega)) := List.getElem?_eq_getElem (by omega)
  have g1 : xs[1]? = some (xs[1]'(by omega)) := List.getElem?_eq_getElem (by omega)
  have g2 : xs[2]? = some (xs[2]'(by omega)) := List.getElem?_eq_getElem (by omega)
  obtain ⟨o, e0⟩ := one_bool (c := c0) (h0.trans g0)
  obtain ⟨a, e1⟩ := one_int (c := c1) (h1.trans g1)
  obtain ⟨b, e2⟩ := one_int (c := c2) (h2.trans g2)
  exact ⟨o, a, b, e0, e1, e2⟩
set_option maxRecDepth 100000 in
theorem one_heard {fuel : Nat} {cs : List Value} {x : DataW H × List MemPlace} (h : DataW.trod enc Try.prog w base spare held fuel 141 cs = some x) : ∃ z : Hd, cs = row z := by
  obtain ⟨xs, n, _, _, hlen, hxs, hf⟩ := DataW.trod_struct Try.underlying141 h
  have hl : cs.length = 10 := hlen.trans cells_heard
  match cs, hl with
  | [c0, c1, c2, c3, c4, c5, c6, c7, c8, c9], _ =>
    have h0 : DataW.trod enc Try.prog w base spare held n 3 (([c0, c1, c2, c3, c4, c5, c6, c7, c8, c9].drop 0).take (Try.prog.cellsOf 3)) = xs[0]? := hf 0 _ rfl
    have h1 : DataW.trod enc Try.prog w base spare held n 139 (([c0, c1, c2, c3, c4, c5, c6, c7, c8, c9].drop 1).take (Try.prog.cellsOf 139)) = xs[1]? := hf 1 _ rfl
    have h2 : DataW.trod enc Try.prog w base spare held n 3 (([c0, c1, c2, c3, c4, c5, c6, c7, c8, c9].drop 4).take (Try.prog.cellsOf 3)) = xs[2]? := hf 2 _ rfl
    have h3 : DataW.trod enc Try.prog w base spare held n 139 (([c0, c1, c2, c3, c4, c5, c6, c7, c8, c9].drop 5).take (Try.prog.cellsOf 139)) = xs[3]? := hf 3 _ rfl
    have h4 : DataW.trod enc Try.prog w base spare held n 3 (([c0, c1, c2, c3, c4, c5, c6, c7, c8, c9].drop 8).take (Try.prog.cellsOf 3)) = xs[4]? := hf 4 _ rfl
    have h5 : DataW.trod enc Try.prog w base spare held n 3 (([c0, c1, c2, c3, c4, c5, c6, c7, c8, c9].drop 9).take (Try.prog.cellsOf 3)) = xs[5]? := hf 5 _ rfl
    rw [cells_int] at h0 h2 h4 h5
    rw [cells_report] at h1 h3
    have l : xs.length = 6 := hxs
    have g : ∀ i (hi : i < 6), xs[i]? = some (xs[i]'(by omega)) := fun i hi => List.getElem?_eq_getElem (by omega)
    obtain ⟨z0, e0⟩ := one_int (c := c0) (h0.trans (g 0 (by omega)))
    obtain ⟨z1, z2, z3, e1, e2, e3⟩ := one_report (c0 := c1) (c1 := c2) (c2 := c3) (h1.trans (g 1 (by omega)))
    obtain ⟨z4, e4⟩ := one_int (c := c4) (h2.trans (g 2 (by omega)))
    obtain ⟨z5, z6, z7, e5, e6, e7⟩ := one_report (c0 := c5) (c1 := c6) (c2 := c7) (h3.trans (g 3 (by omega)))
    obtain ⟨z8, e8⟩ := one_int (c := c8) (h4.trans (g 4 (by omega)))
    obtain ⟨z9, e9⟩ := one_int (c := c9) (h5.trans (g 5 (by omega)))
    exact ⟨⟨z0, z1, z2, z3, z4, z5, z6, z7, z8, z9⟩, by subst e0 e1 e2 e3 e4 e5 e6 e7 e8 e9; rfl⟩
theorem list_of (f : Nat → List Value) (n : Nat) (h : ∀ i, i < n → ∃ z : Hd, f i = row z) : ∃ hs : List Hd, hs.length = n ∧ ∀ i, i < n → f i = row (hx hs i) := by
  induction n with
  | zero => exact ⟨[], rfl, fun i hi => absurd hi (Nat.not_lt_zero _)⟩
  | succ n ih =>
    obtain ⟨hs, hl, hf⟩ := ih (fun i hi => h i (by omega))
    obtain ⟨z, hz⟩ := h n (by omega)
    refine ⟨hs ++ [z], by simp [hl], fun i hi => ?_⟩
    rcases Nat.lt_or_ge i n with h1 | h1
    · rw [hf i h1, show hx (hs ++ [z]) i = hx hs i from hx_of (by rw [List.getElem?_append_left (by omega)]; exact hx_some (by omega))]
    · obtain rfl : i = n := by omega
      rw [hz, show hx (hs ++ [z]) i = z from hx_of (by rw [List.getElem?_append_right (by omega), hl, Nat.sub_self]; rfl)]
set_option maxRecDepth 100000 in
theorem open_list {fuel : Nat} {c : Value} {x : DataW H × List MemPlace} (h : DataW.trod enc Try.prog w base spare held fuel 63 [c] = some x) :
    ∃ (A : Option Addr) (k : Nat) (hs : List Hd), c = .slice A hs.length k ∧ RdH w w.heap.size A hs ∧ hs.length ≤ maxLen := by
  rcases open_slice Try.underlying63 h with ⟨e, _⟩ | ⟨a, n, cap, m, _, D, Pl, e, _, hl, hm, hmm, _, hi⟩
  · obtain rfl : c = .slice none 0 0 := by simpa using e
    exact ⟨none, 0, [], rfl, ⟨by simp [rows], fun h => absurd h (Nat.not_lt_zero _)⟩, Nat.zero_le _⟩
  · obtain rfl : c = .slice (some a) n cap := by simpa using e
    have hnm : n ≤ m := by rw [hmm]; split <;> omega
    rw [cells_heard] at hi
    have each : ∀ i, i < n → ∃ z : Hd, ∀ j v, (row z)[j]? = some v → w.cell? ((a.add (i * 10)).add j) = some v := by
      intro i hin
      obtain ⟨cs', hc, ht'⟩ := hi i (by omega)
      obtain ⟨_, _, hat⟩ := World.cells?_some hc
      obtain ⟨z, rfl⟩ := one_heard ht'
      refine ⟨z, fun j v hv => ?_⟩
      have hj : j < 10 := by
        have := (List.getElem?_eq_some_iff.1 hv).1
        rwa [row_length] at this
      rw [hat j hj]; exact hv
    obtain ⟨hs, hlen, hf⟩ := list_of (fun i => if h : i < n then row (Classical.choose (each i h)) else row zero) n (fun i hi => ⟨_, by rw [dif_pos hi]⟩)
    have hrow : ∀ i (hin : i < n) j v, (row (hx hs i))[j]? = some v → w.cell? ((a.add (i * 10)).add j) = some v := by
      intro i hin j v hv
      have h1 := hf i hin
      simp only [dif_pos hin] at h1
      exact Classical.choose_spec (each i hin) j v (by rw [h1]; exact hv)
    subst hlen
    rcases Nat.eq_zero_or_pos hs.length with h0 | hn
    · refine ⟨some a, cap, hs, rfl, ⟨rows_length hs, fun h => by omega⟩, by omega⟩
    have h00 := hrow 0 hn 0 (.int .i64 (hx hs 0).ad) rfl
    rw [Nat.zero_mul, Addr.add_zero', Addr.add_zero'] at h00
    obtain ⟨b, o, sp⟩ := a
    obtain rfl : sp = none := World.cell?_spot h00
    refine ⟨_, cap, hs, rfl, ⟨rows_length hs, fun _ => ⟨b, o, rfl, World.block_lt_of_cell? _ _ h00, fun j v hv => ?_⟩⟩, by omega⟩
    have hj : j < hs.length * 10 := by have := (List.getElem?_eq_some_iff.1 hv).1; rwa [rows_length] at this
    have h2 := rows_at (hs := hs) (k := j / 10) (j := j % 10) (by omega) (by omega)
    rw [Nat.div_add_mod' j 10, hv] at h2
    have h3 := hrow (j / 10) (by omega) (j % 10) v h2.symm
    rw [add_add, Nat.div_add_mod', Addr.add_lit] at h3
    exact h3
set_option maxRecDepth 100000 in
theorem open_receiver {r : Reach} {b0 : Nat} {v : Value} {d : DataW H} {p : List MemPlace} (hv : Value.okWide Try.prog w r b0 65 v) (h : DataW.Trod enc Try.prog w base spare held 65 v d p) :
    ∃ (m : Int) (A : Option Addr) (k : Nat) (hs : List Hd), v = .agg #[.int .i64 m, .slice A hs.length k] ∧ RdH w w.heap.size A hs ∧ hs.length ≤ maxLen := by
  obtain ⟨v0, v1, y0, y1, n, rfl, rfl, rfl, t0, t1⟩ := open_agg2 Try.underlying65 (by kernel_rfl) (by kernel_rfl) hv h
  obtain ⟨m, rfl⟩ := one_int t0
  obtain ⟨A, k, hs, rfl, h1, h2⟩ := open_list t1
  exact ⟨m, A, k, hs, rfl, h1, h2⟩
end
end Go.Proofs.Ytelkflgmjfmadaa.rcvo
