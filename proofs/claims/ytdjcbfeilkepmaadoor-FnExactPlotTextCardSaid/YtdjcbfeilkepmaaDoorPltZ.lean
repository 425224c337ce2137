/- An argument that is a plot (four ints, two of them a place, and a slice of ints), opened. -/
import Derived.Test.YtdjcbfeilkepmaaDoorPltO
namespace Go.Proofs.YtdjcbfeilkepmaaDoor.pltz
open Go.RowKit Go.ChangeShapes Go.WideShapes Go.Deep Go.Joins Go.Proofs.YtdjcbfeilkepmaaDoor.lst Go.Proofs.YtdjcbfeilkepmaaDoor.lsto Go.Proofs.YtdjcbfeilkepmaaDoor.plto Go.Proofs.YtdjcbfeilkepmaaDoor.ints

section
variable {H : Type} {enc : TypeId × Value → H} {w : World} {base : Nat} {spare : Nat → Bool} {held : Bool}
theorem int_cell {fuel : Nat} {cs : List Value} {x : DataW H × List MemPlace} (h : DataW.trod enc Tryd.prog w base spare held fuel 3 cs = some x) : ∀ j, j < 1 → ∃ z, cs[j]? = some (.int .i64 z) := by
  obtain ⟨z, e, -, -⟩ := DataW.trod_int Tryd.underlying3 h
  intro j hj
  obtain rfl : j = 0 := by omega
  exact ⟨z, by rw [e]; rfl⟩
set_option maxRecDepth 100000 in
theorem open_ints {fuel : Nat} {cs : List Value} {x : DataW H × List MemPlace} (h : DataW.trod enc Tryd.prog w base spare held fuel 26 cs = some x) :
    ∃ (A : Option Addr) (n c : Nat) (zs : List Int), cs = [.slice A n c] ∧ RdZ 1 w w.heap.size A n zs ∧ n ≤ maxLen := by
  rcases open_slice Tryd.underlying26 h with ⟨rfl, _⟩ | ⟨a, n, c, m, _, D, Pl, rfl, _, hl, hm, hmm, _, hi⟩
  · exact ⟨none, 0, 0, [], rfl, ⟨by simp, fun h => absurd h (Nat.not_lt_zero _)⟩, Nat.zero_le _⟩
  · have hnm : n ≤ m := by rw [hmm]; split <;> omega
    rw [cells_int] at hi
    have hs : 0 < 1 := by decide
    have each : ∀ i, i < n → ∀ j, j < 1 → ∃ z, w.cell? (a.add (i * 1 + j)) = some (.int .i64 z) := by
      intro i hin j hj
      obtain ⟨cs', hc, ht'⟩ := hi i (by omega)
      obtain ⟨_, _, hat⟩ := World.cells?_some hc
      obtain ⟨z, hz⟩ := int_cell ht' j hj
      exact ⟨z, by rw [← add_add, hat j hj, hz]⟩
    rcases Nat.eq_zero_or_pos n with rfl | hn
    · exact ⟨some a, 0, c, [], rfl, ⟨by simp, fun h => absurd h (Nat.not_lt_zero _)⟩, Nat.zero_le _⟩
    obtain ⟨z0, h00⟩ := each 0 hn 0 hs
    rw [Nat.zero_mul, Nat.zero_add, Addr.add_zero'] at h00
    obtain ⟨b, o, sp⟩ := a
    obtain rfl : sp = none := World.cell?_spot h00
    have flat : ∀ q, q < n * 1 → ∃ z, w.cell? ⟨b, o + q, none⟩ = some (.int .i64 z) := by
      intro q hq
      obtain ⟨z, hz⟩ := each (q / 1) (Nat.div_lt_of_lt_mul (by rw [Nat.mul_comm]; exact hq)) (q % 1) (Nat.mod_lt _ hs)
      rw [Nat.div_add_mod', Addr.add_lit] at hz
      exact ⟨z, hz⟩
    refine ⟨_, n, c, (List.range (n * 1)).map (intAt w b o), rfl, ⟨by simp, fun _ => ⟨b, o, rfl, World.block_lt_of_cell? _ _ h00, fun j x hx => ?_⟩⟩, by omega⟩
    have hj : j < n * 1 := by have := (List.getElem?_eq_some_iff.1 hx).1; simpa using this
    obtain ⟨z, hz⟩ := flat j hj
    rw [List.getElem?_map, List.getElem?_range hj] at hx
    obtain rfl : intAt w b o j = x := by simpa using hx
    rw [intAt_of hz]
    exact hz

theorem cells_plot : Tryd.prog.cellsOf 50 = 5 := by kernel_rfl
theorem cells_ints : Tryd.prog.cellsOf 26 = 1 := by kernel_rfl
theorem array5 {cs : Array Value} (h : cs.size = 5) : ∃ c0 c1 c2 c3 c4, cs = #[c0, c1, c2, c3, c4] := by
  obtain ⟨l⟩ := cs
  match l, h with
  | [c0, c1, c2, c3, c4], _ => exact ⟨c0, c1, c2, c3, c4, rfl⟩
set_option maxRecDepth 100000 in
theorem open_plot {r : Reach} {b0 : Nat} {v : Value} {d : DataW H} {p : List MemPlace} (hv : Value.okWide Tryd.prog w r b0 50 v) (h : DataW.Trod enc Tryd.prog w base spare held 50 v d p) :
    ∃ (s a x y : Int) (A : Option Addr) (n c : Nat) (xs : List Int), v = .agg #[.int .i64 s, .int .i64 a, .int .i64 x, .int .i64 y, .slice A n c] ∧ RdI w w.heap.size A n xs ∧ n ≤ maxLen := by
  obtain ⟨cs, rfl, hsz⟩ := okWide_struct Tryd.underlying50 hv
  obtain ⟨c0, c1, c2, c3, c4, rfl⟩ := array5 (hsz.trans cells_plot)
  obtain ⟨fuel, hf0⟩ := h
  have hf1 : DataW.trod enc Tryd.prog w base spare held fuel 50 [c0, c1, c2, c3, c4] = some (d, p) := hf0
  obtain ⟨xs, n, _, _, hlen, hxs, hf⟩ := DataW.trod_struct Tryd.underlying50 hf1
  have h0 : DataW.trod enc Tryd.prog w base spare held n 3 (([c0, c1, c2, c3, c4].drop 0).take (Tryd.prog.cellsOf 3)) = xs[0]? := hf 0 _ rfl
  have h1 : DataW.trod enc Tryd.prog w base spare held n 3 (([c0, c1, c2, c3, c4].drop 1).take (Tryd.prog.cellsOf 3)) = xs[1]? := hf 1 _ rfl
  have h2 : DataW.trod enc Tryd.prog w base spare held n 48 (([c0, c1, c2, c3, c4].drop 2).take (Tryd.prog.cellsOf 48)) = xs[2]? := hf 2 _ rfl
  have h3 : DataW.trod enc Tryd.prog w base spare held n 26 (([c0, c1, c2, c3, c4].drop 4).take (Tryd.prog.cellsOf 26)) = xs[3]? := hf 3 _ rfl
  rw [cells_int] at h0 h1
  rw [cells_place] at h2
  rw [cells_ints] at h3
  have l : xs.length = 4 := hxs
  have g : ∀ i (hi : i < 4), xs[i]? = some (xs[i]'(by omega)) := fun i hi => List.getElem?_eq_getElem (by omega)
  obtain ⟨z0, rfl⟩ := one_int (c := c0) (h0.trans (g 0 (by omega)))
  obtain ⟨z1, rfl⟩ := one_int (c := c1) (h1.trans (g 1 (by omega)))
  obtain ⟨z2, z3, rfl, rfl⟩ := one_place (c0 := c2) (c1 := c3) (h2.trans (g 2 (by omega)))
  obtain ⟨A, k, c, zs, e, hrd, hle⟩ := open_ints (cs := [c4]) (h3.trans (g 3 (by omega)))
  obtain rfl : c4 = .slice A k c := by simpa using e
  exact ⟨z0, z1, z2, z3, A, k, c, zs, rfl, ⟨by have := hrd.1; omega, hrd.2⟩, hle⟩
end
end Go.Proofs.YtdjcbfeilkepmaaDoor.pltz
