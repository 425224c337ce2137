/- Lists of sectors: read (an argument), owned (a copy), put, marked, opened. -/
import Derived.Test.YtkndfklbonkbiaaSecZ
import Derived.Test.YtkndfklbonkbiaaSecE
import Derived.Test.YtkndfklbonkbiaaRws
namespace Go.Proofs.Ytkndfklbonkbiaa.slsa
open Go.RowKit Go.ChangeShapes Go.WideShapes Go.Deep Go.Proofs.Ytkndfklbonkbiaa.ints Go.Proofs.Ytkndfklbonkbiaa.lst Go.Proofs.Ytkndfklbonkbiaa.rws

/-- A sector: its Id and the coordinates of its corners, one after the other. -/
abbrev Se := Int × List Int
def nc (p : Se) : Nat := p.2.length / 2
/-- A list of sectors that is read; with q, the corners' capacities are at least their lengths. -/
def RdS (q : Bool) (W : World) (B : Nat) (A : Option Addr) (n : Nat) (ps : List Se) : Prop :=
  ps.length = n ∧ ∀ (k : Nat) (p : Se), ps[k]? = some p → ∃ b o A1 c1, A = some ⟨b, o, none⟩ ∧ b < B ∧ W.cell? ⟨b, o + k * 2, none⟩ = some (.int .i64 p.1) ∧ W.cell? ⟨b, o + k * 2 + 1, none⟩ = some (.slice A1 (nc p) c1) ∧ RdZ 2 W B A1 (nc p) p.2 ∧ nc p ≤ maxLen ∧ (q = true → nc p ≤ c1)
theorem RdS.below {q : Bool} {w w' : World} {B B' n : Nat} {A : Option Addr} {ps : List Se} (h : RdS q w B A n ps) (hb : Below B' w w') (hB : B ≤ B') : RdS q w' B A n ps :=
  ⟨h.1, fun k p hp => by
    obtain ⟨b, o, A1, c1, e, hlt, h0, h1, h2, h3, h4⟩ := h.2 k p hp
    exact ⟨b, o, A1, c1, e, hlt, (hb.cell (p := ⟨b, o + k * 2, none⟩) (Nat.lt_of_lt_of_le hlt hB)).trans h0, (hb.cell (p := ⟨b, o + k * 2 + 1, none⟩) (Nat.lt_of_lt_of_le hlt hB)).trans h1, h2.below hb hB, h3, h4⟩⟩
theorem RdZ_up {s : Nat} {w : World} {B B' n : Nat} {A : Option Addr} {zs : List Int} (h : RdZ s w B A n zs) (hB : B ≤ B') : RdZ s w B' A n zs :=
  ⟨h.1, fun hn => by
    obtain ⟨b, o, e, hlt, hc⟩ := h.2 hn
    exact ⟨b, o, e, Nat.lt_of_lt_of_le hlt hB, hc⟩⟩
theorem RdS.next {q : Bool} {w w' : World} {n : Nat} {A : Option Addr} {ps : List Se} (h : RdS q w w.heap.size A n ps) (hb : Below w.heap.size w w') : RdS q w' w'.heap.size A n ps :=
  ⟨h.1, fun k p hp => by
    obtain ⟨b, o, A1, c1, e, hlt, h0, h1, h2, h3, h4⟩ := (h.below hb (Nat.le_refl _)).2 k p hp
    exact ⟨b, o, A1, c1, e, Nat.lt_of_lt_of_le hlt hb.size, h0, h1, RdZ_up h2 hb.size, h3, h4⟩⟩
theorem RdS.len {q : Bool} {w : World} {B n : Nat} {A : Option Addr} {ps : List Se} (h : RdS q w B A n ps) : ps.length = n := h.1
theorem RdS.get {q : Bool} {w : World} {B n k : Nat} {A : Option Addr} {ps : List Se} (h : RdS q w B A n ps) (hk : k < n) : ∃ p, ps[k]? = some p := ⟨_, List.getElem?_eq_getElem (by rw [h.1]; exact hk)⟩

def qc (p : Se) (u : Value) : List Value := [.int .i64 p.1, u]
def qCells (ps : List Se) (us : List Value) : List Value := (List.zipWith qc ps us).flatten
/-- A list of sectors of the call's own, the corners in rows of their own. -/
def GQ (B : Nat) (W : World) (v : Value) (ps : List Se) : Prop :=
  ∃ us, us.length = ps.length ∧ W.ownsRow B 42 2 v ps.length (qCells ps us) ∧ Ins B 31 2 W us (ps.map fun p => cellsI p.2)
theorem q_app (p : Se) (u : Value) (ps : List Se) (us : List Value) : qCells (p :: ps) (u :: us) = qc p u ++ qCells ps us := rfl
theorem qCells_at : ∀ {ps : List Se} {us : List Value} {g : Nat} {p : Se} {u : Value}, us.length = ps.length → ps[g]? = some p → us[g]? = some u → ∀ j, j < 2 → (qCells ps us)[g * 2 + j]? = (qc p u)[j]?
  | [], us, g, q, u, _, h1, _, j, hj => by simp at h1
  | q0 :: G, [], g, q, u, hl, _, _, j, hj => by simp at hl
  | q0 :: G, u0 :: us, 0, q, u, hl, h1, h2, j, hj => by
    obtain rfl : q0 = q := by simpa using h1
    obtain rfl : u0 = u := by simpa using h2
    show (qc q0 u0 ++ qCells G us)[0 * 2 + j]? = _
    rw [Nat.zero_mul, Nat.zero_add, List.getElem?_append_left (by show j < 2; exact hj)]
  | q0 :: G, u0 :: us, g + 1, q, u, hl, h1, h2, j, hj => by
    show (qc q0 u0 ++ qCells G us)[(g + 1) * 2 + j]? = _
    have e : (qc q0 u0).length = 2 := rfl
    rw [List.getElem?_append_right (by rw [e]; omega), e, show (g + 1) * 2 + j - 2 = g * 2 + j by omega]
    exact qCells_at (by simpa using hl) (by simpa using h1) (by simpa using h2) j hj
theorem set_past {a b : List Value} {g j : Nat} {v : Value} (h : a.length = 2) : (a ++ b).set ((g + 1) * 2 + j) v = a ++ b.set (g * 2 + j) v := by
  rw [List.set_append, if_neg (by omega), h, show (g + 1) * 2 + j - 2 = g * 2 + j by omega]
theorem qCells_set : ∀ {ps : List Se} {us : List Value} {g : Nat}, us.length = ps.length → g < ps.length → ∀ (d : Int) (xs : List Int) (u : Value),
    qCells (ps.set g (d, xs)) (us.set g u) = ((qCells ps us).set (g * 2 + 0) (.int .i64 d)).set (g * 2 + 1) u
  | [], us, g, _, h, _, _, _ => by simp at h
  | p :: ps, [], g, h, _, _, _, _ => by simp at h
  | p :: ps, u0 :: us, 0, _, _, d, xs, u => rfl
  | p :: ps, u0 :: us, g + 1, hl, hg, d, xs, u => by
    rw [List.set_cons_succ, List.set_cons_succ, q_app, q_app, qCells_set (by simpa using hl) (by simpa using hg), set_past rfl, set_past rfl]
theorem qCells_length : ∀ {ps : List Se} {us : List Value}, us.length = ps.length → (qCells ps us).length = ps.length * 2
  | [], us, h => by simp [qCells]
  | q :: G, [], h => by simp at h
  | q :: G, u :: us, h => by
    have := qCells_length (ps := G) (us := us) (by simpa using h)
    rw [q_app, List.length_append, this, List.length_cons]
    show 2 + _ = _
    omega
theorem put_ {B m : Nat} {e : TypeId} {W : World} {us : List Value} {rs : List (List Value)} (h : Ins B e m W us rs) (i : Nat) {u : Value} {r : List Value} {n : Nat} (ho : W.ownsRow B e m u n r) (hne : ∀ (g : Nat) (j : Nat) (u' : Value), u.ownBlock = some g → us[j]? = some u' → u'.ownBlock ≠ some g) : Ins B e m W (us.set i u) (rs.set i r) := by
  refine ⟨by rw [List.length_set, List.length_set, h.1], fun j u1 r1 h1 h2 => ?_, fun j k u1 u2 g hjk h1 h2 hb => ?_⟩
  · rw [List.getElem?_set] at h1 h2
    have hl := h.1
    by_cases e : i = j
    · rw [if_pos e] at h1 h2
      split at h1
      · rw [if_pos (by omega)] at h2
        injection h1 with h1
        injection h2 with h2
        subst h1; subst h2
        exact ⟨n, ho⟩
      · cases h1
    · rw [if_neg e] at h1 h2
      exact h.2.1 j u1 r1 h1 h2
  · rw [List.getElem?_set] at h1 h2
    by_cases e : i = j
    · rw [if_pos e] at h1
      rw [if_neg (by omega)] at h2
      split at h1
      · injection h1 with h1
        subst h1
        exact hne g k u2 hb h2
      · cases h1
    · rw [if_neg e] at h1
      by_cases e3 : i = k
      · rw [if_pos e3] at h2
        split at h2
        · injection h2 with h2
          subst h2
          intro e4
          exact hne g j u1 e4 h1 hb
        · cases h2
      · rw [if_neg e3] at h2
        exact h.2.2 j k u1 u2 g hjk h1 h2 hb
section
variable {B : Nat} {W W' : World} {v : Value} {ps : List Se}
theorem GQ.below (h : GQ B W v ps) (hb : Below W.heap.size W W') : GQ B W' v ps := by
  obtain ⟨us, h1, h2, h3⟩ := h
  exact ⟨us, h1, own_.own_below h2 hb, h3.below hb⟩
theorem GQ.slice (h : GQ B W v ps) : ∃ A c, v = .slice A ps.length c := by
  obtain ⟨us, _, h2, _⟩ := h
  exact own_sliceZ h2
theorem capZ {w : World} {B e s n : Nat} {v : Value} {xs : List Value} (h : w.ownsRow B e s v n xs) : ∃ A c, v = .slice A n c ∧ n ≤ c := by
  rcases h.2 with ⟨rfl, h0⟩ | ⟨g, cap, cur, hv, hB, hh, hc, _⟩
  · subst h0; exact ⟨none, 0, rfl, Nat.le_refl _⟩
  · exact ⟨_, cap, hv, hc⟩
/-- Element g: its cells, its corners, and what a new Id and new corners in the same row make of the list. -/
theorem GQ.read (h : GQ B W v ps) {g : Nat} {p : Se} (hq : ps[g]? = some p) :
    ∃ ob oc A c, v = .slice (some ⟨ob, 0, none⟩) ps.length oc ∧ ob < W.heap.size ∧ B ≤ ob ∧ (∀ j, W.frozen? ⟨ob, j, none⟩ = false) ∧ W.cell? ⟨ob, g * 2, none⟩ = some (.int .i64 p.1) ∧ W.cell? ⟨ob, g * 2 + 1, none⟩ = some (.slice A (nc p) c) ∧ W.ownsRow B 31 2 (.slice A (nc p) c) (nc p) (cellsI p.2) ∧ nc p ≤ c ∧ p.2.length = nc p * 2 ∧
      (∀ gb, (Value.slice A (nc p) c).ownBlock = some gb → gb ≠ ob) ∧ (∀ (B' m : Nat) (x : Value) (r : List Value), W.ownsRow B' 3 1 x m r → ∀ gb, x.ownBlock = some gb → gb ≠ ob ∧ (Value.slice A (nc p) c).ownBlock ≠ some gb) ∧
      ∀ (d : Int) (ys : List Int) (n : Nat) (W' : World), (W.setCell ⟨ob, g * 2, none⟩ (.int .i64 d)).grownBy W' (Value.slice A (nc p) c).ownBlock →
        W'.ownsRow B 31 2 (.slice A (nc p) c) n (cellsI ys) → GQ B W' v (ps.set g (d, ys)) := by
  obtain ⟨us, hl, h1, h2⟩ := h
  have hg := (List.getElem?_eq_some_iff.1 hq).1
  obtain ⟨u, hu⟩ : ∃ u, us[g]? = some u := ⟨_, List.getElem?_eq_getElem (by rw [hl]; exact hg)⟩
  obtain ⟨m, ho⟩ := h2.2.1 g u _ hu (by rw [List.getElem?_map, hq]; rfl)
  have hm : p.2.length = m * 2 := by
    have := ho.1
    unfold cellsI at this
    rw [List.length_map] at this
    exact this
  obtain rfl : m = nc p := by unfold nc; omega
  obtain ⟨A, c, rfl, hc1⟩ := capZ ho
  rcases h1.2 with ⟨_, e0⟩ | ⟨ob, cap, cur, rfl, hB, hh, _⟩
  · omega
  · have hc := fun j hj x hx => h1.cells (g := ob) rfl (g * 2 + j) x ((qCells_at hl hq hu j hj).trans hx)
    have hap : ∀ gb, (Value.slice A (nc p) c).ownBlock = some gb → gb ≠ ob := fun gb e e2 => by
      subst e2
      exact rws.apart ho h1 (by decide) e rfl
    refine ⟨ob, cap, A, c, rfl, (h1.lt ob rfl).2, hB, fun j => h1.frozenAt j, ?_, ?_, ho, hc1, hm, hap, ?_, ?_⟩
    · have := hc 0 (by decide) _ rfl; rwa [Addr.add_lit, Nat.zero_add] at this
    · have := hc 1 (by decide) _ rfl; rwa [Addr.add_lit, Nat.zero_add] at this
    · intro B' m x r hx gb e
      exact ⟨fun e2 => by subst e2; exact rws.apart hx h1 (by decide) e rfl, fun e2 => rws.apart hx ho (by decide) e e2⟩
    · intro d ys n W' hgr ho'
      have s1 := (h1.stored (g * 2) (.int .i64 d)).1
      have hg4 := grown_set (grown_refl W (some ob)) (g * 2) (.int .i64 d)
      have h4 := h2.kept hg4 (fun g' i u' e hu' hb' => by
        injection e with e
        subst e
        obtain ⟨k1, r1, ho1⟩ := h2.row hu'
        exact rws.apart ho1 h1 (by decide) hb' rfl)
      have h5 := h4.set hu hgr ho' (.inl rfl)
      have e5 : us.set g (.slice A (nc p) c) = us := by
        have hx := List.getElem?_eq_some_iff.1 hu
        rw [← hx.2]
        exact List.set_getElem_self hx.1
      rw [e5] at h5
      refine ⟨us, by rw [List.length_set]; exact hl, ?_, ?_⟩
      · have e6 : qCells (ps.set g (d, ys)) us = (qCells ps us).set (g * 2) (.int .i64 d) := by
          have e7 := qCells_set hl hg d ys (.slice A (nc p) c)
          rw [e5] at e7
          rw [e7]
          refine List.ext_getElem? fun i => ?_
          rw [List.getElem?_set]
          split
          · rename_i e8
            subst e8
            rw [List.getElem?_set_ne (by omega), qCells_at hl hq hu 1 (by decide)]
            split
            · rfl
            · rename_i e9
              have := qCells_length hl
              rw [List.length_set] at e9
              omega
          · rfl
        rw [List.length_set, e6]
        exact s1.kept hgr (.inr (fun e => hap _ e.symm rfl))
      · rw [List.map_set]
        exact h5
/-- A fresh row of corners and an Id put at g. -/
theorem GQ.put (h : GQ B W v ps) {g : Nat} (hg : g < ps.length) {W1 : World} (hb : Below W.heap.size W W1) (hB : B ≤ W.heap.size) {u : Value} {n : Nat} {zs : List Int} (hu : W1.ownsRow W.heap.size 31 2 u n (cellsI zs)) (d : Int) :
    ∃ ob oc x y, v = .slice (some ⟨ob, 0, none⟩) ps.length oc ∧ B ≤ ob ∧ (∀ j, W1.frozen? ⟨ob, j, none⟩ = false) ∧ W1.cell? ⟨ob, g * 2, none⟩ = some x ∧ W1.cell? ⟨ob, g * 2 + 1, none⟩ = some y ∧
      GQ B ((W1.setCell ⟨ob, g * 2, none⟩ (.int .i64 d)).setCell ⟨ob, g * 2 + 1, none⟩ u) v (ps.set g (d, zs)) := by
  obtain ⟨us, hl, h1', h2'⟩ := h
  have h1 := own_.own_below h1' hb
  have h2 := h2'.below hb
  rcases h1.2 with ⟨_, e0⟩ | ⟨ob, cap, cur, rfl, hBo, hh, _⟩
  · omega
  · have hlen : g * 2 + 1 < (qCells ps us).length := by rw [qCells_length hl]; omega
    have hc0 := h1.cells (g := ob) rfl (g * 2) _ (List.getElem?_eq_getElem (show g * 2 < (qCells ps us).length by omega))
    have hc1 := h1.cells (g := ob) rfl (g * 2 + 1) _ (List.getElem?_eq_getElem hlen)
    rw [Addr.add_lit, Nat.zero_add] at hc0 hc1
    refine ⟨ob, cap, _, _, rfl, hBo, fun j => h1.frozenAt j, hc0, hc1, ?_⟩
    have s1 := (h1.stored (g * 2) (.int .i64 d)).1
    have s2 := (s1.stored (g * 2 + 1) u).1
    have hgr := grown_set (grown_set (grown_refl W1 (some ob)) (g * 2) (.int .i64 d)) (g * 2 + 1) u
    have h3 := put_ h2 g (own_.own_base hu hB) (fun gb j u' e1 e2 e3 => by
      have := (hu.lt gb e1).1
      have := h2'.lt e2 e3
      omega)
    refine ⟨us.set g u, by rw [List.length_set, List.length_set]; exact hl, ?_, ?_⟩
    · rw [List.length_set, qCells_set hl hg]
      exact s2
    · rw [List.map_set]
      refine h3.kept hgr fun gb j w0 e hw hg0 => ?_
      obtain ⟨k1, r1, ho1⟩ := h3.row hw
      exact rws.apart ho1 h1 (by decide) hg0 e
/-- An own list reads. -/
theorem GQ.rd (h : GQ B W v ps) {A : Option Addr} {n c : Nat} (hv : v = .slice A n c) : RdS true W W.heap.size A n ps := by
  obtain ⟨A', c', e⟩ := h.slice
  rw [hv] at e
  obtain ⟨rfl, rfl, rfl⟩ : A = A' ∧ n = ps.length ∧ c = c' := by injection e with e1 e2 e3; exact ⟨e1, e2, e3⟩
  refine ⟨rfl, fun k p hp => ?_⟩
  obtain ⟨ob, oc, A1, c1, e1, h1, -, -, h2, h3, h4, h5, h6, -⟩ := h.read hp
  rw [hv] at e1
  injection e1 with e1
  exact ⟨ob, 0, A1, c1, e1, h1, by rw [Nat.zero_add]; exact h2, by rw [Nat.zero_add]; exact h3, RdZ.of_own h4 h6, by
    rcases h4.2 with ⟨_, h0⟩ | ⟨g, cap, cur, hv2, _, _, ha, hb, _⟩
    · rw [h0]; exact Nat.zero_le _
    · injection hv2 with e5 e6 e7
      omega, fun _ => h5⟩
end
end Go.Proofs.Ytkndfklbonkbiaa.slsa
