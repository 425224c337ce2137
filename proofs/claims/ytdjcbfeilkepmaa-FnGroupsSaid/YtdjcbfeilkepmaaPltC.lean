/- A slice of plots read; the laws' eqPlotS on two of them. -/
import Derived.Test.YtdjcbfeilkepmaaPltN0
import Derived.Test.YtdjcbfeilkepmaaPltV
namespace Go.Proofs.Ytdjcbfeilkepmaa.pltc
open Go.RowKit Go.Proofs.Ytdjcbfeilkepmaa.ints Go.Proofs.Ytdjcbfeilkepmaa.lst Go.Proofs.Ytdjcbfeilkepmaa.plt Go.Proofs.Ytdjcbfeilkepmaa.pltm Go.Proofs.Ytdjcbfeilkepmaa.pltn0 Go.Proofs.Ytdjcbfeilkepmaa.rws

theorem plCells_at {zs : List Int} : ∀ {G : List (List Nat)} {us : List Value} {g : Nat} {q : List Nat} {u : Value}, us.length = G.length → G[g]? = some q → us[g]? = some u → ∀ j, j < 5 → (plCells zs G us)[g * 5 + j]? = (plc zs q u)[j]?
  | [], us, g, q, u, _, h1, _, j, hj => by simp at h1
  | q0 :: G, [], g, q, u, hl, _, _, j, hj => by simp at hl
  | q0 :: G, u0 :: us, 0, q, u, hl, h1, h2, j, hj => by
    obtain rfl : q0 = q := by simpa using h1
    obtain rfl : u0 = u := by simpa using h2
    show (plc zs q0 u0 ++ plCells zs G us)[0 * 5 + j]? = _
    rw [Nat.zero_mul, Nat.zero_add, List.getElem?_append_left (by show j < 5; exact hj)]
  | q0 :: G, u0 :: us, g + 1, q, u, hl, h1, h2, j, hj => by
    show (plc zs q0 u0 ++ plCells zs G us)[(g + 1) * 5 + j]? = _
    have e : (plc zs q0 u0).length = 5 := rfl
    rw [List.getElem?_append_right (by rw [e]; omega), e, show (g + 1) * 5 + j - 5 = g * 5 + j by omega]
    exact plCells_at (by simpa using hl) (by simpa using h1) (by simpa using h2) j hj
theorem GP.read {zs : List Int} {B : Nat} {W : World} {v : Value} {G : List (List Nat)} (h : GP zs B W v G) {g : Nat} {q : List Nat} (hq : G[g]? = some q) :
    ∃ ob oc A c, v = .slice (some ⟨ob, 0, none⟩) G.length oc ∧ ob < W.heap.size ∧ B ≤ ob ∧ (∀ j, W.frozen? ⟨ob, j, none⟩ = false) ∧ W.cell? ⟨ob, g * 5, none⟩ = some (.int .i64 (plS zs q)) ∧ W.cell? ⟨ob, g * 5 + 1, none⟩ = some (.int .i64 (plA zs q)) ∧
      W.cell? ⟨ob, g * 5 + 2, none⟩ = some (.int .i64 (plX zs q)) ∧ W.cell? ⟨ob, g * 5 + 3, none⟩ = some (.int .i64 (plY zs q)) ∧ W.cell? ⟨ob, g * 5 + 4, none⟩ = some (.slice A q.length c) ∧ W.ownsRow B 3 1 (.slice A q.length c) q.length (cellsI (plL zs q)) := by
  obtain ⟨us, hl, h1, h2⟩ := h
  have hg := (List.getElem?_eq_some_iff.1 hq).1
  obtain ⟨u, hu⟩ : ∃ u, us[g]? = some u := ⟨_, List.getElem?_eq_getElem (by rw [hl]; exact hg)⟩
  obtain ⟨m, ho⟩ := h2.2.1 g u _ hu (by rw [List.getElem?_map, hq]; rfl)
  obtain rfl : m = q.length := by
    have := ho.1
    unfold cellsI at this
    rw [List.length_map, plL_length] at this
    omega
  obtain ⟨A, c, rfl⟩ := own_sliceZ ho
  rcases h1.2 with ⟨_, e0⟩ | ⟨ob, cap, cur, rfl, hB, hh, _⟩
  · omega
  · have hc := fun j hj x hx => h1.cells (g := ob) rfl (g * 5 + j) x ((plCells_at hl hq hu j hj).trans hx)
    refine ⟨ob, cap, A, c, rfl, (h1.lt ob rfl).2, hB, fun j => h1.frozenAt j, ?_, ?_, ?_, ?_, ?_, ho⟩
    · have := hc 0 (by decide) _ rfl; rwa [Addr.add_lit, Nat.zero_add] at this
    · have := hc 1 (by decide) _ rfl; rwa [Addr.add_lit, Nat.zero_add] at this
    · have := hc 2 (by decide) _ rfl; rwa [Addr.add_lit, Nat.zero_add] at this
    · have := hc 3 (by decide) _ rfl; rwa [Addr.add_lit, Nat.zero_add] at this
    · have := hc 4 (by decide) _ rfl; rwa [Addr.add_lit, Nat.zero_add] at this

end Go.Proofs.Ytdjcbfeilkepmaa.pltc
