/- Slices of what is heard, in memory: what it is to read as a list of values, of aircraft; rows of the call's own. -/
import Derived.Test.YtdjcbfeilkepmaaRcv
import Derived.Test.YtdjcbfeilkepmaaLst
import Derived.Test.YtdjcbfeilkepmaaAtS
namespace Go.Proofs.Ytdjcbfeilkepmaa.rcvm
open Go.RowKit Go.Proofs.Ytdjcbfeilkepmaa.rcv Go.Proofs.Ytdjcbfeilkepmaa.lst

/-- The slice (A, n) of things of s cells reads as these values; it lies below block B. -/
def RdV (s : Nat) (w : World) (B : Nat) (A : Option Addr) (n : Nat) (vs : List Value) : Prop :=
  vs.length = n * s ∧ (0 < n → ∃ b o, A = some ⟨b, o, none⟩ ∧ b < B ∧ ∀ (j : Nat) (v : Value), vs[j]? = some v → w.cell? ⟨b, o + j, none⟩ = some v)
theorem RdV.below {s : Nat} {w w' : World} {B B' n : Nat} {A : Option Addr} {vs : List Value} (h : RdV s w B A n vs) (hb : Below B' w w') (hB : B ≤ B') : RdV s w' B A n vs :=
  ⟨h.1, fun hn => by
    obtain ⟨b, o, e, hlt, hc⟩ := h.2 hn
    exact ⟨b, o, e, hlt, fun j x hx => (hb.cell (p := ⟨b, o + j, none⟩) (by exact Nat.lt_of_lt_of_le hlt hB)).trans (hc j x hx)⟩⟩
theorem RdV.next {s : Nat} {w w' : World} {n : Nat} {A : Option Addr} {vs : List Value} (h : RdV s w w.heap.size A n vs) (hb : Below w.heap.size w w') : RdV s w' w'.heap.size A n vs :=
  ⟨h.1, fun hn => by
    obtain ⟨b, o, e, hlt, hc⟩ := (h.below hb (Nat.le_refl _)).2 hn
    exact ⟨b, o, e, Nat.lt_of_lt_of_le hlt hb.size, hc⟩⟩
theorem RdV.of_own {s : Nat} {w : World} {B e c n : Nat} {A : Option Addr} {vs : List Value} (h : w.ownsRow B e s (.slice A n c) n vs) : RdV s w w.heap.size A n vs := by
  refine ⟨h.1, fun h0 => ?_⟩
  rcases h.2 with ⟨_, h1⟩ | ⟨g, cap, cur, hv, _, hh, _⟩
  · omega
  · injection hv with hA
    subst hA
    refine ⟨g, 0, rfl, ?_, fun j x hx => ?_⟩
    · rcases Nat.lt_or_ge g w.heap.size with h2 | h2
      · exact h2
      · rw [Array.getElem?_eq_none h2] at hh; cases hh
    · have := h.cells (g := g) rfl j x hx
      rwa [Addr.add_lit] at this
theorem RdV.cut {s : Nat} {w : World} {B n m : Nat} {A : Option Addr} {vs : List Value} (h : RdV s w B A n vs) (hm : m ≤ n) : RdV s w B A m (vs.take (m * s)) :=
  ⟨by rw [List.length_take, h.1]; exact Nat.min_eq_left (Nat.mul_le_mul_right s hm), fun h0 => by
    obtain ⟨b, o, e, hlt, hc⟩ := h.2 (by omega)
    refine ⟨b, o, e, hlt, fun j x hx => hc j x ?_⟩
    rw [List.getElem?_take] at hx
    split at hx
    · exact hx
    · cases hx⟩
/-- It reads as these aircraft. -/
def RdH (w : World) (B : Nat) (A : Option Addr) (hs : List Hd) : Prop := RdV 10 w B A hs.length (rows hs)
theorem RdH.cells {w : World} {B k : Nat} {A : Option Addr} {hs : List Hd} (h : RdH w B A hs) (hk : k < hs.length) :
    ∃ b o, A = some ⟨b, o, none⟩ ∧ b < B ∧ w.cell? ⟨b, o + k * 10, none⟩ = some (.int .i64 (hx hs k).ad) ∧ w.cell? ⟨b, o + k * 10 + 1, none⟩ = some (.bool (hx hs k).eo)
      ∧ w.cell? ⟨b, o + k * 10 + 2, none⟩ = some (.int .i64 (hx hs k).ea) ∧ w.cell? ⟨b, o + k * 10 + 3, none⟩ = some (.int .i64 (hx hs k).eb) ∧ w.cell? ⟨b, o + k * 10 + 4, none⟩ = some (.int .i64 (hx hs k).et)
      ∧ w.cell? ⟨b, o + k * 10 + 5, none⟩ = some (.bool (hx hs k).oo) ∧ w.cell? ⟨b, o + k * 10 + 6, none⟩ = some (.int .i64 (hx hs k).oa) ∧ w.cell? ⟨b, o + k * 10 + 7, none⟩ = some (.int .i64 (hx hs k).ob)
      ∧ w.cell? ⟨b, o + k * 10 + 8, none⟩ = some (.int .i64 (hx hs k).ot) ∧ w.cell? ⟨b, o + k * 10 + 9, none⟩ = some (.int .i64 (hx hs k).fr) := by
  obtain ⟨b, o, e, hb, hc⟩ := h.2 (by omega)
  have g : ∀ j v, j < 10 → (row (hx hs k))[j]? = some v → w.cell? ⟨b, o + (k * 10 + j), none⟩ = some v := fun j v hj hv => hc _ _ ((rows_at hk hj).trans hv)
  exact ⟨b, o, e, hb, g 0 _ (by omega) rfl, g 1 _ (by omega) rfl, g 2 _ (by omega) rfl, g 3 _ (by omega) rfl, g 4 _ (by omega) rfl, g 5 _ (by omega) rfl, g 6 _ (by omega) rfl, g 7 _ (by omega) rfl, g 8 _ (by omega) rfl, g 9 _ (by omega) rfl⟩
theorem RdH.of_own {w : World} {B e c n : Nat} {A : Option Addr} {hs : List Hd} (h : w.ownsRow B e 10 (.slice A n c) n (rows hs)) (hn : n = hs.length) : RdH w w.heap.size A hs := by
  subst hn; exact RdV.of_own h
theorem RdH.next {w w' : World} {A : Option Addr} {hs : List Hd} (h : RdH w w.heap.size A hs) (hb : Below w.heap.size w w') : RdH w' w'.heap.size A hs := RdV.next h hb
theorem RdH.below {w w' : World} {B B' : Nat} {A : Option Addr} {hs : List Hd} (h : RdH w B A hs) (hb : Below B' w w') (hB : B ≤ B') : RdH w' B A hs := RdV.below h hb hB
theorem own_lenH {w : World} {B e c n : Nat} {A : Option Addr} {hs : List Hd} (h : w.ownsRow B e 10 (.slice A n c) n (rows hs)) : n = hs.length := by
  have := h.1
  rw [rows_length] at this
  omega
theorem flip {f : FuncId} {args : Array Value} {v : Value} {w : World} (h : Calls Try.prog f args w (fun e w' => e = .returned v ∧ w = w')) : Calls Try.prog f args w (fun e w' => e = .returned v ∧ w' = w) := h.mono fun _ _ h => ⟨h.1, h.2.symm⟩
theorem infoH : (Try.prog.info? 137).map (fun i => (i.zero, i.size, i.bytes)) = some (some (hv zero), 10, 80) := by kernel_rfl
theorem set_right {a b : List Value} {i : Nat} {v : Value} (h : a.length ≤ i) : (a ++ b).set i v = a ++ b.set (i - a.length) v := by rw [List.set_append, if_neg (by omega)]
/-- Ten stores write one element. -/
theorem rows_put (h : Hd) : ∀ (L : List Hd) (k : Nat), k < L.length →
    ((((((((((rows L).set (k * 10) (.int .i64 h.ad)).set (k * 10 + 1) (.bool h.eo)).set (k * 10 + 2) (.int .i64 h.ea)).set (k * 10 + 3) (.int .i64 h.eb)).set (k * 10 + 4) (.int .i64 h.et)).set (k * 10 + 5) (.bool h.oo)).set (k * 10 + 6) (.int .i64 h.oa)).set (k * 10 + 7) (.int .i64 h.ob)).set (k * 10 + 8) (.int .i64 h.ot)).set (k * 10 + 9) (.int .i64 h.fr)
      = rows (L.set k h)
  | [], _, hk => absurd hk (Nat.not_lt_zero _)
  | x :: t, 0, _ => by simp [rows_cons, row]
  | x :: t, k + 1, hk => by
    have ih := rows_put h t k (by simpa using hk)
    rw [List.set_cons_succ, rows_cons, rows_cons, ← ih]
    have e : ∀ (r : List Value) (j : Nat) (v : Value), (row x ++ r).set ((k + 1) * 10 + j) v = row x ++ r.set (k * 10 + j) v := fun r j v => by
      rw [set_right (by rw [row_length]; omega), row_length, show (k + 1) * 10 + j - 10 = k * 10 + j by omega]
    have e0 : ∀ (r : List Value) (v : Value), (row x ++ r).set ((k + 1) * 10) v = row x ++ r.set (k * 10) v := fun r v => e r 0 v
    rw [e0, e, e, e, e, e, e, e, e, e]
theorem own_put {w : World} {B e n c g k : Nat} {L : List Hd} (h : w.ownsRow B e 10 (.slice (some ⟨g, 0, none⟩) n c) n (rows L)) (hk : k < L.length) (x : Hd) :
    ((((((((((w.setCell ⟨g, k * 10, none⟩ (.int .i64 x.ad)).setCell ⟨g, k * 10 + 1, none⟩ (.bool x.eo)).setCell ⟨g, k * 10 + 2, none⟩ (.int .i64 x.ea)).setCell ⟨g, k * 10 + 3, none⟩ (.int .i64 x.eb)).setCell ⟨g, k * 10 + 4, none⟩ (.int .i64 x.et)).setCell ⟨g, k * 10 + 5, none⟩ (.bool x.oo)).setCell ⟨g, k * 10 + 6, none⟩ (.int .i64 x.oa)).setCell ⟨g, k * 10 + 7, none⟩ (.int .i64 x.ob)).setCell ⟨g, k * 10 + 8, none⟩ (.int .i64 x.ot)).setCell ⟨g, k * 10 + 9, none⟩ (.int .i64 x.fr)).ownsRow B e 10 (.slice (some ⟨g, 0, none⟩) n c) n (rows (L.set k x)) := by
  have h10 := ((((((((((h.stored (k * 10) (.int .i64 x.ad)).1.stored (k * 10 + 1) (.bool x.eo)).1.stored (k * 10 + 2) (.int .i64 x.ea)).1.stored (k * 10 + 3) (.int .i64 x.eb)).1.stored (k * 10 + 4) (.int .i64 x.et)).1.stored (k * 10 + 5) (.bool x.oo)).1.stored (k * 10 + 6) (.int .i64 x.oa)).1.stored (k * 10 + 7) (.int .i64 x.ob)).1.stored (k * 10 + 8) (.int .i64 x.ot)).1.stored (k * 10 + 9) (.int .i64 x.fr)).1
  rw [rows_put x L k hk] at h10
  exact h10
theorem below_put {w0 w : World} {B g i : Nat} (h : Below B w0 w) (hg : B ≤ g) (x : Hd) :
    Below B w0 ((((((((((w.setCell ⟨g, i, none⟩ (.int .i64 x.ad)).setCell ⟨g, i + 1, none⟩ (.bool x.eo)).setCell ⟨g, i + 2, none⟩ (.int .i64 x.ea)).setCell ⟨g, i + 3, none⟩ (.int .i64 x.eb)).setCell ⟨g, i + 4, none⟩ (.int .i64 x.et)).setCell ⟨g, i + 5, none⟩ (.bool x.oo)).setCell ⟨g, i + 6, none⟩ (.int .i64 x.oa)).setCell ⟨g, i + 7, none⟩ (.int .i64 x.ob)).setCell ⟨g, i + 8, none⟩ (.int .i64 x.ot)).setCell ⟨g, i + 9, none⟩ (.int .i64 x.fr)) :=
  (((((((((h.setCell (p := ⟨g, i, none⟩) hg _).setCell (p := ⟨g, i + 1, none⟩) hg _).setCell (p := ⟨g, i + 2, none⟩) hg _).setCell (p := ⟨g, i + 3, none⟩) hg _).setCell (p := ⟨g, i + 4, none⟩) hg _).setCell (p := ⟨g, i + 5, none⟩) hg _).setCell (p := ⟨g, i + 6, none⟩) hg _).setCell (p := ⟨g, i + 7, none⟩) hg _).setCell (p := ⟨g, i + 8, none⟩) hg _).setCell (p := ⟨g, i + 9, none⟩) hg _
theorem grown_put {w0 w : World} {g i : Nat} (h : w0.grownBy w (some g)) (x : Hd) :
    w0.grownBy ((((((((((w.setCell ⟨g, i, none⟩ (.int .i64 x.ad)).setCell ⟨g, i + 1, none⟩ (.bool x.eo)).setCell ⟨g, i + 2, none⟩ (.int .i64 x.ea)).setCell ⟨g, i + 3, none⟩ (.int .i64 x.eb)).setCell ⟨g, i + 4, none⟩ (.int .i64 x.et)).setCell ⟨g, i + 5, none⟩ (.bool x.oo)).setCell ⟨g, i + 6, none⟩ (.int .i64 x.oa)).setCell ⟨g, i + 7, none⟩ (.int .i64 x.ob)).setCell ⟨g, i + 8, none⟩ (.int .i64 x.ot)).setCell ⟨g, i + 9, none⟩ (.int .i64 x.fr)) (some g) :=
  grown_set (grown_set (grown_set (grown_set (grown_set (grown_set (grown_set (grown_set (grown_set (grown_set h _ _) _ _) _ _) _ _) _ _) _ _) _ _) _ _) _ _) _ _
theorem own_cells {w : World} {B e n c g k : Nat} {L : List Hd} (h : w.ownsRow B e 10 (.slice (some ⟨g, 0, none⟩) n c) n (rows L)) (hk : k < L.length) :
    w.cell? ⟨g, k * 10, none⟩ = some (.int .i64 (hx L k).ad) ∧ w.cell? ⟨g, k * 10 + 1, none⟩ = some (.bool (hx L k).eo) ∧ w.cell? ⟨g, k * 10 + 2, none⟩ = some (.int .i64 (hx L k).ea) ∧ w.cell? ⟨g, k * 10 + 3, none⟩ = some (.int .i64 (hx L k).eb) ∧ w.cell? ⟨g, k * 10 + 4, none⟩ = some (.int .i64 (hx L k).et)
      ∧ w.cell? ⟨g, k * 10 + 5, none⟩ = some (.bool (hx L k).oo) ∧ w.cell? ⟨g, k * 10 + 6, none⟩ = some (.int .i64 (hx L k).oa) ∧ w.cell? ⟨g, k * 10 + 7, none⟩ = some (.int .i64 (hx L k).ob) ∧ w.cell? ⟨g, k * 10 + 8, none⟩ = some (.int .i64 (hx L k).ot) ∧ w.cell? ⟨g, k * 10 + 9, none⟩ = some (.int .i64 (hx L k).fr) := by
  have hn := own_lenH h
  have q : ∀ j v, j < 10 → (row (hx L k))[j]? = some v → w.cell? ⟨g, k * 10 + j, none⟩ = some v := fun j v hj hv => (h.cellAt (k * 10 + j) (by omega)).trans ((rows_at hk hj).trans hv)
  exact ⟨q 0 _ (by omega) rfl, q 1 _ (by omega) rfl, q 2 _ (by omega) rfl, q 3 _ (by omega) rfl, q 4 _ (by omega) rfl, q 5 _ (by omega) rfl, q 6 _ (by omega) rfl, q 7 _ (by omega) rfl, q 8 _ (by omega) rfl, q 9 _ (by omega) rfl⟩
/-- The first k of these, the others nothing. -/
def fillH (hs : List Hd) (k : Nat) : List Hd := hs.take k ++ List.replicate (hs.length - k) zero
theorem fill_length {hs : List Hd} {k : Nat} (h : k ≤ hs.length) : (fillH hs k).length = hs.length := by unfold fillH; simp; omega
theorem fill_zero (hs : List Hd) : fillH hs 0 = List.replicate hs.length zero := by unfold fillH; simp
theorem fill_all (hs : List Hd) : fillH hs hs.length = hs := by unfold fillH; simp
theorem fill_set {hs : List Hd} {k : Nat} (h : k < hs.length) : (fillH hs k).set k (hx hs k) = fillH hs (k + 1) := by
  unfold fillH
  have hl : (hs.take k).length = k := by rw [List.length_take]; omega
  rw [List.set_append, if_neg (by omega), hl, Nat.sub_self, List.take_add_one, hx_some h]
  obtain ⟨r, hr⟩ : ∃ r, hs.length - k = r + 1 := ⟨hs.length - k - 1, by omega⟩
  rw [hr, List.replicate_succ, List.set_cons_zero, show hs.length - (k + 1) = r by omega]
  simp
theorem rows_replicate (n : Nat) : rows (List.replicate n zero) = (madeCells (Value.cells (hv zero)) (n * 10)).toList := by
  refine List.ext_getElem? fun i => ?_
  rcases Nat.lt_or_ge i (n * 10) with h | h
  · have h1 : i / 10 < (List.replicate n zero).length := by rw [List.length_replicate]; omega
    have h2 := rows_at h1 (show i % 10 < 10 by omega)
    rw [Nat.div_add_mod' i 10] at h2
    rw [h2, hx_of (h := zero) (by rw [List.getElem?_replicate, if_pos (by omega)])]
    have : (madeCells (Value.cells (hv zero)) (n * 10)).toList[i]? = (Value.cells (hv zero))[i % 10]? := by
      simp [madeCells, h, hv, zero, Value.cells]
      have : i % 10 = 0 ∨ i % 10 = 1 ∨ i % 10 = 2 ∨ i % 10 = 3 ∨ i % 10 = 4 ∨ i % 10 = 5 ∨ i % 10 = 6 ∨ i % 10 = 7 ∨ i % 10 = 8 ∨ i % 10 = 9 := by omega
      rcases this with e | e | e | e | e | e | e | e | e | e <;> simp [e]
    rw [this]
    have : i % 10 = 0 ∨ i % 10 = 1 ∨ i % 10 = 2 ∨ i % 10 = 3 ∨ i % 10 = 4 ∨ i % 10 = 5 ∨ i % 10 = 6 ∨ i % 10 = 7 ∨ i % 10 = 8 ∨ i % 10 = 9 := by omega
    rcases this with e | e | e | e | e | e | e | e | e | e <;> rw [e] <;> rfl
  · rw [List.getElem?_eq_none (by rw [rows_length, List.length_replicate]; exact h), List.getElem?_eq_none (by simp [madeCells]; exact h)]
theorem at_s0 {T : TypeId} {a0 a1 a2 a3 a4 a5 a6 a7 a8 a9 : Value} {w W : World} {b : Nat} (h : ats.AtS T #[a0, a1, a2, a3, a4, a5, a6, a7, a8, a9] w W b) (x : Value) : ats.AtS T #[x, a1, a2, a3, a4, a5, a6, a7, a8, a9] w (W.setCell ⟨b, 0, none⟩ x) b := h.set 0 x
theorem at_s1 {T : TypeId} {a0 a1 a2 a3 a4 a5 a6 a7 a8 a9 : Value} {w W : World} {b : Nat} (h : ats.AtS T #[a0, a1, a2, a3, a4, a5, a6, a7, a8, a9] w W b) (x : Value) : ats.AtS T #[a0, x, a2, a3, a4, a5, a6, a7, a8, a9] w (W.setCell ⟨b, 1, none⟩ x) b := h.set 1 x
theorem at_s2 {T : TypeId} {a0 a1 a2 a3 a4 a5 a6 a7 a8 a9 : Value} {w W : World} {b : Nat} (h : ats.AtS T #[a0, a1, a2, a3, a4, a5, a6, a7, a8, a9] w W b) (x : Value) : ats.AtS T #[a0, a1, x, a3, a4, a5, a6, a7, a8, a9] w (W.setCell ⟨b, 2, none⟩ x) b := h.set 2 x
theorem at_s3 {T : TypeId} {a0 a1 a2 a3 a4 a5 a6 a7 a8 a9 : Value} {w W : World} {b : Nat} (h : ats.AtS T #[a0, a1, a2, a3, a4, a5, a6, a7, a8, a9] w W b) (x : Value) : ats.AtS T #[a0, a1, a2, x, a4, a5, a6, a7, a8, a9] w (W.setCell ⟨b, 3, none⟩ x) b := h.set 3 x
theorem at_s4 {T : TypeId} {a0 a1 a2 a3 a4 a5 a6 a7 a8 a9 : Value} {w W : World} {b : Nat} (h : ats.AtS T #[a0, a1, a2, a3, a4, a5, a6, a7, a8, a9] w W b) (x : Value) : ats.AtS T #[a0, a1, a2, a3, x, a5, a6, a7, a8, a9] w (W.setCell ⟨b, 4, none⟩ x) b := h.set 4 x
theorem at_s5 {T : TypeId} {a0 a1 a2 a3 a4 a5 a6 a7 a8 a9 : Value} {w W : World} {b : Nat} (h : ats.AtS T #[a0, a1, a2, a3, a4, a5, a6, a7, a8, a9] w W b) (x : Value) : ats.AtS T #[a0, a1, a2, a3, a4, x, a6, a7, a8, a9] w (W.setCell ⟨b, 5, none⟩ x) b := h.set 5 x
theorem at_s6 {T : TypeId} {a0 a1 a2 a3 a4 a5 a6 a7 a8 a9 : Value} {w W : World} {b : Nat} (h : ats.AtS T #[a0, a1, a2, a3, a4, a5, a6, a7, a8, a9] w W b) (x : Value) : ats.AtS T #[a0, a1, a2, a3, a4, a5, x, a7, a8, a9] w (W.setCell ⟨b, 6, none⟩ x) b := h.set 6 x
theorem at_s7 {T : TypeId} {a0 a1 a2 a3 a4 a5 a6 a7 a8 a9 : Value} {w W : World} {b : Nat} (h : ats.AtS T #[a0, a1, a2, a3, a4, a5, a6, a7, a8, a9] w W b) (x : Value) : ats.AtS T #[a0, a1, a2, a3, a4, a5, a6, x, a8, a9] w (W.setCell ⟨b, 7, none⟩ x) b := h.set 7 x
theorem at_s8 {T : TypeId} {a0 a1 a2 a3 a4 a5 a6 a7 a8 a9 : Value} {w W : World} {b : Nat} (h : ats.AtS T #[a0, a1, a2, a3, a4, a5, a6, a7, a8, a9] w W b) (x : Value) : ats.AtS T #[a0, a1, a2, a3, a4, a5, a6, a7, x, a9] w (W.setCell ⟨b, 8, none⟩ x) b := h.set 8 x
theorem at_s9 {T : TypeId} {a0 a1 a2 a3 a4 a5 a6 a7 a8 a9 : Value} {w W : World} {b : Nat} (h : ats.AtS T #[a0, a1, a2, a3, a4, a5, a6, a7, a8, a9] w W b) (x : Value) : ats.AtS T #[a0, a1, a2, a3, a4, a5, a6, a7, a8, x] w (W.setCell ⟨b, 9, none⟩ x) b := h.set 9 x
theorem at_even {T : TypeId} {a0 a1 a2 a3 a4 a5 a6 a7 a8 a9 : Value} {w W : World} {b : Nat} (h : ats.AtS T #[a0, a1, a2, a3, a4, a5, a6, a7, a8, a9] w W b) (x1 x2 x3 x4 : Value) : ats.AtS T #[a0, x1, x2, x3, x4, a5, a6, a7, a8, a9] w ((((W.setCell ⟨b, 1, none⟩ x1).setCell ⟨b, 2, none⟩ x2).setCell ⟨b, 3, none⟩ x3).setCell ⟨b, 4, none⟩ x4) b := (at_s4 (at_s3 (at_s2 (at_s1 h x1) x2) x3) x4)
theorem at_odd {T : TypeId} {a0 a1 a2 a3 a4 a5 a6 a7 a8 a9 : Value} {w W : World} {b : Nat} (h : ats.AtS T #[a0, a1, a2, a3, a4, a5, a6, a7, a8, a9] w W b) (x5 x6 x7 x8 : Value) : ats.AtS T #[a0, a1, a2, a3, a4, x5, x6, x7, x8, a9] w ((((W.setCell ⟨b, 5, none⟩ x5).setCell ⟨b, 6, none⟩ x6).setCell ⟨b, 7, none⟩ x7).setCell ⟨b, 8, none⟩ x8) b := (at_s8 (at_s7 (at_s6 (at_s5 h x5) x6) x7) x8)
theorem at_rest {T : TypeId} {a0 a1 a2 a3 a4 a5 a6 a7 a8 a9 : Value} {w W : World} {b : Nat} (h : ats.AtS T #[a0, a1, a2, a3, a4, a5, a6, a7, a8, a9] w W b) (x5 x6 x7 x8 x9 : Value) : ats.AtS T #[a0, a1, a2, a3, a4, x5, x6, x7, x8, x9] w (((((W.setCell ⟨b, 5, none⟩ x5).setCell ⟨b, 6, none⟩ x6).setCell ⟨b, 7, none⟩ x7).setCell ⟨b, 8, none⟩ x8).setCell ⟨b, 9, none⟩ x9) b := (at_s9 (at_s8 (at_s7 (at_s6 (at_s5 h x5) x6) x7) x8) x9)
theorem at_all {T : TypeId} {a0 a1 a2 a3 a4 a5 a6 a7 a8 a9 : Value} {w W : World} {b : Nat} (h : ats.AtS T #[a0, a1, a2, a3, a4, a5, a6, a7, a8, a9] w W b) (x0 x1 x2 x3 x4 x5 x6 x7 x8 x9 : Value) : ats.AtS T #[x0, x1, x2, x3, x4, x5, x6, x7, x8, x9] w ((((((((((W.setCell ⟨b, 0, none⟩ x0).setCell ⟨b, 1, none⟩ x1).setCell ⟨b, 2, none⟩ x2).setCell ⟨b, 3, none⟩ x3).setCell ⟨b, 4, none⟩ x4).setCell ⟨b, 5, none⟩ x5).setCell ⟨b, 6, none⟩ x6).setCell ⟨b, 7, none⟩ x7).setCell ⟨b, 8, none⟩ x8).setCell ⟨b, 9, none⟩ x9) b := (at_s9 (at_s8 (at_s7 (at_s6 (at_s5 (at_s4 (at_s3 (at_s2 (at_s1 (at_s0 h x0) x1) x2) x3) x4) x5) x6) x7) x8) x9)
/-- Cells of a block of ten, one by one. -/
theorem ten {T : TypeId} {a0 a1 a2 a3 a4 a5 a6 a7 a8 a9 : Value} {w W : World} {b : Nat} (h : ats.AtS T #[a0, a1, a2, a3, a4, a5, a6, a7, a8, a9] w W b) :
    W.cell? ⟨b, 0, none⟩ = some a0 ∧ W.cell? ⟨b, 1, none⟩ = some a1 ∧ W.cell? ⟨b, 2, none⟩ = some a2 ∧ W.cell? ⟨b, 3, none⟩ = some a3 ∧ W.cell? ⟨b, 4, none⟩ = some a4 ∧ W.cell? ⟨b, 5, none⟩ = some a5 ∧ W.cell? ⟨b, 6, none⟩ = some a6 ∧ W.cell? ⟨b, 7, none⟩ = some a7 ∧ W.cell? ⟨b, 8, none⟩ = some a8 ∧ W.cell? ⟨b, 9, none⟩ = some a9 :=
  ⟨h.cell 0, h.cell 1, h.cell 2, h.cell 3, h.cell 4, h.cell 5, h.cell 6, h.cell 7, h.cell 8, h.cell 9⟩
theorem tenF {T : TypeId} {cs : Array Value} {w W : World} {b : Nat} (h : ats.AtS T cs w W b) :
    W.frozen? ⟨b, 0, none⟩ = false ∧ W.frozen? ⟨b, 1, none⟩ = false ∧ W.frozen? ⟨b, 2, none⟩ = false ∧ W.frozen? ⟨b, 3, none⟩ = false ∧ W.frozen? ⟨b, 4, none⟩ = false ∧ W.frozen? ⟨b, 5, none⟩ = false ∧ W.frozen? ⟨b, 6, none⟩ = false ∧ W.frozen? ⟨b, 7, none⟩ = false ∧ W.frozen? ⟨b, 8, none⟩ = false ∧ W.frozen? ⟨b, 9, none⟩ = false :=
  ⟨h.frozen 0, h.frozen 1, h.frozen 2, h.frozen 3, h.frozen 4, h.frozen 5, h.frozen 6, h.frozen 7, h.frozen 8, h.frozen 9⟩
/-- A row of the call's own that holds these. -/
def OwH (w : World) (B : Nat) (A : Option Addr) (c : Nat) (hs : List Hd) : Prop := w.ownsRow B 137 10 (.slice A hs.length c) hs.length (rows hs)
theorem OwH.next {w w' : World} {B c : Nat} {A : Option Addr} {hs : List Hd} (h : OwH w B A c hs) (hb : Below w.heap.size w w') : OwH w' B A c hs := own_.own_below h hb
theorem OwH.rd {w : World} {B c : Nat} {A : Option Addr} {hs : List Hd} (h : OwH w B A c hs) : RdH w w.heap.size A hs := RdH.of_own h rfl
theorem at_low {T : TypeId} {cs : Array Value} {w V V' : World} {b B : Nat} (h : ats.AtS T cs w V b) (hb : Below B V V') (hlt : b < B) (hle : w.heap.size ≤ B) : ats.AtS T cs w V' b :=
  ⟨h.1.trans (hb.mono hle), h.2.1, Nat.lt_of_lt_of_le h.2.2.1 hb.size, (hb.block b hlt).trans h.2.2.2⟩
theorem at_grown {T : TypeId} {cs : Array Value} {w W W' : World} {b p : Nat} (h : ats.AtS T cs w W b) (hg : W.grownBy W' (some p)) (hne : b ≠ p) (hp : w.heap.size ≤ p) : ats.AtS T cs w W' b :=
  ⟨h.1.grown hg h.1.size (fun g e => by injection e with e; omega), h.2.1, Nat.lt_of_lt_of_le h.2.2.1 hg.size, (hg.block b h.2.2.1 (fun e => hne (by injection e))).trans h.2.2.2⟩
end Go.Proofs.Ytdjcbfeilkepmaa.rcvm
