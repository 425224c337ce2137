/- An argument that is a slice of sightings (structs with a place in them), opened: it reads as a flat list of ints. -/
import Derived.Test.YtcfkkmlmjekhiaaLstO
import Derived.Lib.SmallJoins
namespace Go.Proofs.Ytcfkkmlmjekhiaa.plto
open Go.RowKit Go.ChangeShapes Go.WideShapes Go.Deep Go.Joins Go.Proofs.Ytcfkkmlmjekhiaa.lst Go.Proofs.Ytcfkkmlmjekhiaa.lsto

section
variable {H : Type} {enc : TypeId × Value → H} {w : World} {base : Nat} {spare : Nat → Bool} {held : Bool}
theorem one_int {fuel : Nat} {c : Value} {x : DataW H × List MemPlace} (h : DataW.trod enc Try.prog w base spare held fuel 3 [c] = some x) : ∃ z, c = .int .i64 z := by
  obtain ⟨z, e, -, -⟩ := DataW.trod_int Try.underlying3 h
  exact ⟨z, by simpa using e⟩
theorem cells_int : Try.prog.cellsOf 3 = 1 := by kernel_rfl
theorem cells_place : Try.prog.cellsOf 57 = 2 := by kernel_rfl
theorem cells_sight : Try.prog.cellsOf 90 = 5 := by kernel_rfl
set_option maxRecDepth 100000 in
theorem one_place {fuel : Nat} {c0 c1 : Value} {x : DataW H × List MemPlace} (h : DataW.trod enc Try.prog w base spare held fuel 57 [c0, c1] = some x) : ∃ a b, c0 = .int .i64 a ∧ c1 = .int .i64 b := by
  obtain ⟨xs, n, _, _, hlen, hxs, hf⟩ := DataW.trod_struct Try.underlying57 h
  have h0 : DataW.trod enc Try.prog w base spare held n 3 (([c0, c1].drop 0).take (Try.prog.cellsOf 3)) = xs[0]? := hf 0 _ rfl
  have h1 : DataW.trod enc Try.prog w base spare held n 3 (([c0, c1].drop 1).take (Try.prog.cellsOf 3)) = xs[1]? := hf 1 _ rfl
  rw [cells_int] at h0 h1
  have l : xs.length = 2 := hxs
  have g : ∀ i (hi : i < 2), xs[i]? = some (xs[i]'(by omega)) := fun i hi => List.getElem?_eq_getElem (by omega)
  obtain ⟨a, e1⟩ := one_int (c := c0) (h0.trans (g 0 (by omega)))
  obtain ⟨b, e2⟩ := one_int (c := c1) (h1.trans (g 1 (by omega)))
  exact ⟨a, b, e1, e2⟩
set_option maxRecDepth 100000 in
theorem sight_ints {fuel : Nat} {cs : List Value} {x : DataW H × List MemPlace} (h : DataW.trod enc Try.prog w base spare held fuel 90 cs = some x) : ∀ j, j < 5 → ∃ z, cs[j]? = some (.int .i64 z) := by
  obtain ⟨xs, n, _, _, hlen, hxs, hf⟩ := DataW.trod_struct Try.underlying90 h
  have hl : cs.length = 5 := hlen.trans cells_sight
  match cs, hl with
  | [c0, c1, c2, c3, c4], _ =>
    have h0 : DataW.trod enc Try.prog w base spare held n 3 (([c0, c1, c2, c3, c4].drop 0).take (Try.prog.cellsOf 3)) = xs[0]? := hf 0 _ rfl
    have h1 : DataW.trod enc Try.prog w base spare held n 3 (([c0, c1, c2, c3, c4].drop 1).take (Try.prog.cellsOf 3)) = xs[1]? := hf 1 _ rfl
    have h2 : DataW.trod enc Try.prog w base spare held n 3 (([c0, c1, c2, c3, c4].drop 2).take (Try.prog.cellsOf 3)) = xs[2]? := hf 2 _ rfl
    have h3 : DataW.trod enc Try.prog w base spare held n 57 (([c0, c1, c2, c3, c4].drop 3).take (Try.prog.cellsOf 57)) = xs[3]? := hf 3 _ rfl
    rw [cells_int] at h0 h1 h2
    rw [cells_place] at h3
    have l : xs.length = 4 := hxs
    have g : ∀ i (hi : i < 4), xs[i]? = some (xs[i]'(by omega)) := fun i hi => List.getElem?_eq_getElem (by omega)
    obtain ⟨z0, e0⟩ := one_int (c := c0) (h0.trans (g 0 (by omega)))
    obtain ⟨z1, e1⟩ := one_int (c := c1) (h1.trans (g 1 (by omega)))
    obtain ⟨z2, e2⟩ := one_int (c := c2) (h2.trans (g 2 (by omega)))
    obtain ⟨z3, z4, e3, e4⟩ := one_place (c0 := c3) (c1 := c4) (h3.trans (g 3 (by omega)))
    subst e0 e1 e2 e3 e4
    intro j hj
    rcases show j = 0 ∨ j = 1 ∨ j = 2 ∨ j = 3 ∨ j = 4 by omega with h | h | h | h | h <;> subst h <;> exact ⟨_, rfl⟩
set_option maxRecDepth 100000 in
theorem open_sightings {fuel : Nat} {cs : List Value} {x : DataW H × List MemPlace} (h : DataW.trod enc Try.prog w base spare held fuel 46 cs = some x) :
    ∃ (A : Option Addr) (n c : Nat) (zs : List Int), cs = [.slice A n c] ∧ RdZ 5 w w.heap.size A n zs ∧ n ≤ maxLen := by
  rcases open_slice Try.underlying46 h with ⟨rfl, _⟩ | ⟨a, n, c, m, _, D, Pl, rfl, _, hl, hm, hmm, _, hi⟩
  · exact ⟨none, 0, 0, [], rfl, ⟨by simp, fun h => absurd h (Nat.not_lt_zero _)⟩, Nat.zero_le _⟩
  · have hnm : n ≤ m := by rw [hmm]; split <;> omega
    rw [cells_sight] at hi
    have hs : 0 < 5 := by decide
    have each : ∀ i, i < n → ∀ j, j < 5 → ∃ z, w.cell? (a.add (i * 5 + j)) = some (.int .i64 z) := by
      intro i hin j hj
      obtain ⟨cs', hc, ht'⟩ := hi i (by omega)
      obtain ⟨_, _, hat⟩ := World.cells?_some hc
      obtain ⟨z, hz⟩ := sight_ints ht' j hj
      exact ⟨z, by rw [← add_add, hat j hj, hz]⟩
    rcases Nat.eq_zero_or_pos n with rfl | hn
    · exact ⟨some a, 0, c, [], rfl, ⟨by simp, fun h => absurd h (Nat.not_lt_zero _)⟩, Nat.zero_le _⟩
    obtain ⟨z0, h00⟩ := each 0 hn 0 hs
    rw [Nat.zero_mul, Nat.zero_add, Addr.add_zero'] at h00
    obtain ⟨b, o, sp⟩ := a
    obtain rfl : sp = none := World.cell?_spot h00
    have flat : ∀ q, q < n * 5 → ∃ z, w.cell? ⟨b, o + q, none⟩ = some (.int .i64 z) := by
      intro q hq
      obtain ⟨z, hz⟩ := each (q / 5) (Nat.div_lt_of_lt_mul (by rw [Nat.mul_comm]; exact hq)) (q % 5) (Nat.mod_lt _ hs)
      rw [Nat.div_add_mod', Addr.add_lit] at hz
      exact ⟨z, hz⟩
    refine ⟨_, n, c, (List.range (n * 5)).map (intAt w b o), rfl, ⟨by simp, fun _ => ⟨b, o, rfl, World.block_lt_of_cell? _ _ h00, fun j x hx => ?_⟩⟩, by omega⟩
    have hj : j < n * 5 := by have := (List.getElem?_eq_some_iff.1 hx).1; simpa using this
    obtain ⟨z, hz⟩ := flat j hj
    rw [List.getElem?_map, List.getElem?_range hj] at hx
    obtain rfl : intAt w b o j = x := by simpa using hx
    rw [intAt_of hz]
    exact hz
end
end Go.Proofs.Ytcfkkmlmjekhiaa.plto
