/- A slice of plots with any numbers in them: read, and one plot marked. -/
import Derived.Test.YtcfkkmlmjekhiaaPltC
namespace Go.Proofs.Ytcfkkmlmjekhiaa.pltd
open Go.RowKit Go.Proofs.Ytcfkkmlmjekhiaa.ints Go.Proofs.Ytcfkkmlmjekhiaa.lst Go.Proofs.Ytcfkkmlmjekhiaa.plt Go.Proofs.Ytcfkkmlmjekhiaa.pltm Go.Proofs.Ytcfkkmlmjekhiaa.pltn0 Go.Proofs.Ytcfkkmlmjekhiaa.rws

/-- A plot: four numbers and its sites. -/
abbrev Pl := Int × Int × Int × Int × List Int
def qc (p : Pl) (u : Value) : List Value := [.int .i64 p.1, .int .i64 p.2.1, .int .i64 p.2.2.1, .int .i64 p.2.2.2.1, u]
def qCells (ps : List Pl) (us : List Value) : List Value := (List.zipWith qc ps us).flatten
def GQ (B : Nat) (W : World) (v : Value) (ps : List Pl) : Prop :=
  ∃ us, us.length = ps.length ∧ W.ownsRow B 38 5 v ps.length (qCells ps us) ∧ Ins B 3 1 W us (ps.map fun p => cellsI p.2.2.2.2)
def plP (zs : List Int) (q : List Nat) : Pl := (plS zs q, plA zs q, plX zs q, plY zs q, plL zs q)
theorem GQ.of {zs : List Int} {B : Nat} {W : World} {v : Value} {G : List (List Nat)} (h : GP zs B W v G) : GQ B W v (G.map (plP zs)) := by
  obtain ⟨us, h1, h2, h3⟩ := h
  refine ⟨us, by rw [List.length_map]; exact h1, ?_, ?_⟩
  · rw [List.length_map]
    unfold qCells
    rw [List.zipWith_map_left]
    exact h2
  · rw [List.map_map]
    exact h3
theorem q_app (p : Pl) (u : Value) (ps : List Pl) (us : List Value) : qCells (p :: ps) (u :: us) = qc p u ++ qCells ps us := rfl
theorem set_past {a b : List Value} {g j : Nat} {v : Value} (h : a.length = 5) : (a ++ b).set ((g + 1) * 5 + j) v = a ++ b.set (g * 5 + j) v := by
  rw [List.set_append, if_neg (by omega), h, show (g + 1) * 5 + j - 5 = g * 5 + j by omega]
theorem qCells_set : ∀ {ps : List Pl} {us : List Value} {g : Nat}, us.length = ps.length → g < ps.length → ∀ (s a x y : Int) (xs : List Int),
    qCells (ps.set g (s, a, x, y, xs)) us = ((((qCells ps us).set (g * 5 + 0) (.int .i64 s)).set (g * 5 + 1) (.int .i64 a)).set (g * 5 + 2) (.int .i64 x)).set (g * 5 + 3) (.int .i64 y)
  | [], us, g, _, h, _, _, _, _, _ => by simp at h
  | p :: ps, [], g, h, _, _, _, _, _, _ => by simp at h
  | p :: ps, u :: us, 0, _, _, s, a, x, y, xs => rfl
  | p :: ps, u :: us, g + 1, hl, hg, s, a, x, y, xs => by
    rw [List.set_cons_succ, q_app, q_app, qCells_set (by simpa using hl) (by simpa using hg), set_past rfl, set_past rfl, set_past rfl, set_past rfl]
theorem qCells_at : ∀ {ps : List Pl} {us : List Value} {g : Nat} {p : Pl} {u : Value}, us.length = ps.length → ps[g]? = some p → us[g]? = some u → ∀ j, j < 5 → (qCells ps us)[g * 5 + j]? = (qc p u)[j]?
  | [], us, g, q, u, _, h1, _, j, hj => by simp at h1
  | q0 :: G, [], g, q, u, hl, _, _, j, hj => by simp at hl
  | q0 :: G, u0 :: us, 0, q, u, hl, h1, h2, j, hj => by
    obtain rfl : q0 = q := by simpa using h1
    obtain rfl : u0 = u := by simpa using h2
    show (qc q0 u0 ++ qCells G us)[0 * 5 + j]? = _
    rw [Nat.zero_mul, Nat.zero_add, List.getElem?_append_left (by show j < 5; exact hj)]
  | q0 :: G, u0 :: us, g + 1, q, u, hl, h1, h2, j, hj => by
    show (qc q0 u0 ++ qCells G us)[(g + 1) * 5 + j]? = _
    have e : (qc q0 u0).length = 5 := rfl
    rw [List.getElem?_append_right (by rw [e]; omega), e, show (g + 1) * 5 + j - 5 = g * 5 + j by omega]
    exact qCells_at (by simpa using hl) (by simpa using h1) (by simpa using h2) j hj
section
variable {B : Nat} {W W' : World} {v : Value} {ps : List Pl}
theorem GQ.below (h : GQ B W v ps) (hb : Below W.heap.size W W') : GQ B W' v ps := by
  obtain ⟨us, h1, h2, h3⟩ := h
  exact ⟨us, h1, own_.own_below h2 hb, h3.below hb⟩
theorem GQ.slice (h : GQ B W v ps) : ∃ A c, v = .slice A ps.length c := by
  obtain ⟨us, _, h2, _⟩ := h
  exact own_sliceZ h2
theorem GQ.read (h : GQ B W v ps) {g : Nat} {p : Pl} (hq : ps[g]? = some p) :
    ∃ ob oc A c, v = .slice (some ⟨ob, 0, none⟩) ps.length oc ∧ ob < W.heap.size ∧ B ≤ ob ∧ (∀ j, W.frozen? ⟨ob, j, none⟩ = false) ∧ W.cell? ⟨ob, g * 5, none⟩ = some (.int .i64 p.1) ∧ W.cell? ⟨ob, g * 5 + 1, none⟩ = some (.int .i64 p.2.1) ∧
      W.cell? ⟨ob, g * 5 + 2, none⟩ = some (.int .i64 p.2.2.1) ∧ W.cell? ⟨ob, g * 5 + 3, none⟩ = some (.int .i64 p.2.2.2.1) ∧ W.cell? ⟨ob, g * 5 + 4, none⟩ = some (.slice A p.2.2.2.2.length c) ∧ W.ownsRow B 3 1 (.slice A p.2.2.2.2.length c) p.2.2.2.2.length (cellsI p.2.2.2.2) ∧
      (∀ gb, (Value.slice A p.2.2.2.2.length c).ownBlock = some gb → gb ≠ ob) ∧
      -- one plot marked: its four numbers stored, then its sites
      ∀ (s a x y : Int) (ys : List Int) (n : Nat) (W' : World), ((((W.setCell ⟨ob, g * 5, none⟩ (.int .i64 s)).setCell ⟨ob, g * 5 + 1, none⟩ (.int .i64 a)).setCell ⟨ob, g * 5 + 2, none⟩ (.int .i64 x)).setCell ⟨ob, g * 5 + 3, none⟩ (.int .i64 y)).grownBy W' (Value.slice A p.2.2.2.2.length c).ownBlock →
        W'.ownsRow B 3 1 (.slice A p.2.2.2.2.length c) n (cellsI ys) → GQ B W' v (ps.set g (s, a, x, y, ys)) := by
  obtain ⟨us, hl, h1, h2⟩ := h
  have hg := (List.getElem?_eq_some_iff.1 hq).1
  obtain ⟨u, hu⟩ : ∃ u, us[g]? = some u := ⟨_, List.getElem?_eq_getElem (by rw [hl]; exact hg)⟩
  obtain ⟨m, ho⟩ := h2.2.1 g u _ hu (by rw [List.getElem?_map, hq]; rfl)
  obtain rfl : m = p.2.2.2.2.length := by
    have := ho.1
    unfold cellsI at this
    rw [List.length_map] at this
    omega
  obtain ⟨A, c, rfl⟩ := own_sliceZ ho
  rcases h1.2 with ⟨_, e0⟩ | ⟨ob, cap, cur, rfl, hB, hh, _⟩
  · omega
  · have hc := fun j hj x hx => h1.cells (g := ob) rfl (g * 5 + j) x ((qCells_at hl hq hu j hj).trans hx)
    have hap : ∀ gb, (Value.slice A p.2.2.2.2.length c).ownBlock = some gb → gb ≠ ob := fun gb e e2 => by
      subst e2
      exact rws.apart ho h1 (by decide) e rfl
    refine ⟨ob, cap, A, c, rfl, (h1.lt ob rfl).2, hB, fun j => h1.frozenAt j, ?_, ?_, ?_, ?_, ?_, ho, hap, ?_⟩
    · have := hc 0 (by decide) _ rfl; rwa [Addr.add_lit, Nat.zero_add] at this
    · have := hc 1 (by decide) _ rfl; rwa [Addr.add_lit, Nat.zero_add] at this
    · have := hc 2 (by decide) _ rfl; rwa [Addr.add_lit, Nat.zero_add] at this
    · have := hc 3 (by decide) _ rfl; rwa [Addr.add_lit, Nat.zero_add] at this
    · have := hc 4 (by decide) _ rfl; rwa [Addr.add_lit, Nat.zero_add] at this
    · intro s a x y ys n W' hgr ho'
      have s1 := (h1.stored (g * 5) (.int .i64 s)).1
      have s2 := (s1.stored (g * 5 + 1) (.int .i64 a)).1
      have s3 := (s2.stored (g * 5 + 2) (.int .i64 x)).1
      have s4 := (s3.stored (g * 5 + 3) (.int .i64 y)).1
      have hg4 := grown_set (grown_set (grown_set (grown_set (grown_refl W (some ob)) (g * 5) (.int .i64 s)) (g * 5 + 1) (.int .i64 a)) (g * 5 + 2) (.int .i64 x)) (g * 5 + 3) (.int .i64 y)
      have h4 := h2.kept hg4 (fun g' i u' e hu' hb' => by
        injection e with e
        subst e
        obtain ⟨k1, r1, ho1⟩ := h2.row hu'
        exact rws.apart ho1 h1 (by decide) hb' rfl)
      have h5 := h4.set hu hgr ho' (.inl rfl)
      have e5 : us.set g (.slice A p.2.2.2.2.length c) = us := by
        have hx := List.getElem?_eq_some_iff.1 hu
        rw [← hx.2]
        exact List.set_getElem_self hx.1
      rw [e5] at h5
      refine ⟨us, by rw [List.length_set]; exact hl, ?_, ?_⟩
      · rw [List.length_set, qCells_set hl hg]
        exact s4.kept hgr (.inr (fun e => hap _ e.symm rfl))
      · rw [List.map_set]
        exact h5
end
end Go.Proofs.Ytcfkkmlmjekhiaa.pltd
