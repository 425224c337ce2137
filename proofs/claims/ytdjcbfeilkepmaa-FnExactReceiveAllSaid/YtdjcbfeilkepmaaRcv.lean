/- A receiver in plain mathematics (no program in it): what is kept of an aircraft, lists of it, and what the functions of chapter 9 return. -/
import Derived.Test.YtdjcbfeilkepmaaPos
import Derived.Test.YtdjcbfeilkepmaaFrm
namespace Go.Proofs.Ytdjcbfeilkepmaa.rcv
open Go.RowKit Go.Proofs.Ytdjcbfeilkepmaa.in_ Go.Proofs.Ytdjcbfeilkepmaa.pos

/-- What is heard from an aircraft: its address, the even report and its minute, the odd report and its minute, its frames. -/
structure Hd where
  ad : Int
  eo : Bool
  ea : Int
  eb : Int
  et : Int
  oo : Bool
  oa : Int
  ob : Int
  ot : Int
  fr : Int
def zero : Hd := ⟨0, false, 0, 0, 0, false, 0, 0, 0, 0⟩
def row (h : Hd) : List Value := [.int .i64 h.ad, .bool h.eo, .int .i64 h.ea, .int .i64 h.eb, .int .i64 h.et, .bool h.oo, .int .i64 h.oa, .int .i64 h.ob, .int .i64 h.ot, .int .i64 h.fr]
def hv (h : Hd) : Value := .agg #[.int .i64 h.ad, .bool h.eo, .int .i64 h.ea, .int .i64 h.eb, .int .i64 h.et, .bool h.oo, .int .i64 h.oa, .int .i64 h.ob, .int .i64 h.ot, .int .i64 h.fr]
def rows (hs : List Hd) : List Value := hs.flatMap row
theorem row_length (h : Hd) : (row h).length = 10 := rfl
theorem rows_nil : rows [] = [] := rfl
theorem rows_cons (h : Hd) (t : List Hd) : rows (h :: t) = row h ++ rows t := rfl
theorem rows_length (hs : List Hd) : (rows hs).length = hs.length * 10 := by
  induction hs with
  | nil => rfl
  | cons h t ih => rw [rows_cons, List.length_append, ih, row_length, List.length_cons]; omega
theorem rows_append (a b : List Hd) : rows (a ++ b) = rows a ++ rows b := List.flatMap_append
theorem rows_one (h : Hd) : rows [h] = row h := by rw [rows_cons, rows_nil, List.append_nil]
/-- Element k. -/
def hx (hs : List Hd) (k : Nat) : Hd := hs.getD k zero
theorem hx_of {hs : List Hd} {k : Nat} {h : Hd} (e : hs[k]? = some h) : hx hs k = h := by unfold hx; rw [List.getD_eq_getElem?_getD, e]; rfl
theorem hx_some {hs : List Hd} {k : Nat} (h : k < hs.length) : hs[k]? = some (hx hs k) := by rw [List.getElem?_eq_getElem h]; unfold hx; rw [List.getD_eq_getElem?_getD, List.getElem?_eq_getElem h]; rfl
theorem hx_cons (h : Hd) (t : List Hd) (k : Nat) : hx (h :: t) (k + 1) = hx t k := rfl
theorem rows_at {hs : List Hd} {k j : Nat} (hk : k < hs.length) (hj : j < 10) : (rows hs)[k * 10 + j]? = (row (hx hs k))[j]? := by
  induction hs generalizing k with
  | nil => simp at hk
  | cons h t ih =>
    rw [rows_cons]
    cases k with
    | zero => rw [Nat.zero_mul, Nat.zero_add, List.getElem?_append_left (by rw [row_length]; exact hj)]; rfl
    | succ k => rw [List.getElem?_append_right (by rw [row_length]; omega), row_length, show (k + 1) * 10 + j - 10 = k * 10 + j by omega, ih (by simpa using hk), hx_cons]
theorem rows_take (hs : List Hd) (k : Nat) : (rows hs).take (k * 10) = rows (hs.take k) := by
  induction hs generalizing k with
  | nil => simp [rows]
  | cons h t ih =>
    cases k with
    | zero => simp [rows]
    | succ k => rw [List.take_succ_cons, rows_cons, rows_cons, List.take_append, row_length, ← ih, show (k + 1) * 10 - 10 = k * 10 by omega, List.take_of_length_le (by rw [row_length]; omega)]
theorem rows_drop (hs : List Hd) (k : Nat) : (rows hs).drop (k * 10) = rows (hs.drop k) := by
  induction hs generalizing k with
  | nil => simp [rows]
  | cons h t ih =>
    cases k with
    | zero => simp [rows]
    | succ k => rw [List.drop_succ_cons, rows_cons, List.drop_append, row_length, ← ih, show (k + 1) * 10 - 10 = k * 10 by omega, List.drop_of_length_le (by rw [row_length]; omega), List.nil_append]
theorem rows_one_cell (hs : List Hd) : ∀ u ∈ rows hs, u.oneCell' = true := by
  intro u hu
  obtain ⟨h, _, hm⟩ := List.mem_flatMap.mp hu
  simp [row] at hm
  rcases hm with rfl | rfl | rfl | rfl | rfl | rfl | rfl | rfl | rfl | rfl <;> rfl

/- Validity. -/
/-- A report and its minute. -/
def half (o : Bool) (a b t : Int) (odd : Bool) (m : Int) : Bool := if t = -1 then (!o && (decide (a = 0) && decide (b = 0))) else (isIn t 0 m && (rB o a b && (o == odd)))
def one (m : Int) (h : Hd) : Bool := isIn h.ad 1 65535 && (isIn h.fr 1 9999 && (half h.eo h.ea h.eb h.et false m && half h.oo h.oa h.ob h.ot true m))
def upB (hs : List Hd) (k : Nat) : Bool := decide (k = 0 ∨ (hx hs (k - 1)).ad < (hx hs k).ad)
def okA (m : Int) (hs : List Hd) (k : Nat) : Bool := one m (hx hs k) && upB hs k
def vB (m : Int) (hs : List Hd) : Bool := isIn m 0 9999 && (decide (hs.length ≤ 6) && (List.range hs.length).all (okA m hs))
theorem v_min {m : Int} {hs : List Hd} (h : isIn m 0 9999 = false) : vB m hs = false := by unfold vB; rw [h]; rfl
theorem v_long {m : Int} {hs : List Hd} (h : ¬ hs.length ≤ 6) : vB m hs = false := by unfold vB; rw [decide_eq_false h]; simp
theorem v_no {m : Int} {hs : List Hd} {k : Nat} (hk : k < hs.length) (h : okA m hs k = false) : vB m hs = false := by
  unfold vB
  cases e : (List.range hs.length).all (okA m hs)
  · simp
  · rw [List.all_eq_true.mp e k (List.mem_range.mpr hk)] at h; cases h
theorem v_yes {m : Int} {hs : List Hd} (h1 : isIn m 0 9999 = true) (h2 : hs.length ≤ 6) (h : ∀ k, k < hs.length → okA m hs k = true) : vB m hs = true := by
  unfold vB
  rw [h1, decide_eq_true h2, Bool.true_and, Bool.true_and]
  exact List.all_eq_true.mpr fun k hk => h k (List.mem_range.mp hk)
theorem v_parts {m : Int} {hs : List Hd} (h : vB m hs = true) : (0 ≤ m ∧ m ≤ 9999) ∧ hs.length ≤ 6 ∧ ∀ k, k < hs.length → okA m hs k = true := by
  unfold vB at h
  rw [Bool.and_eq_true, Bool.and_eq_true] at h
  exact ⟨of_decide_eq_true h.1, of_decide_eq_true h.2.1, fun k hk => List.all_eq_true.mp h.2.2 k (List.mem_range.mpr hk)⟩
theorem v_one {m : Int} {hs : List Hd} (h : vB m hs = true) {k : Nat} (hk : k < hs.length) : one m (hx hs k) = true := by
  have := (v_parts h).2.2 k hk
  unfold okA at this
  exact (Bool.and_eq_true _ _ ▸ this).1
theorem v_up {m : Int} {hs : List Hd} (h : vB m hs = true) {i j : Nat} (hij : i < j) (hj : j < hs.length) : (hx hs i).ad < (hx hs j).ad := by
  have step : ∀ k, k < hs.length → k ≠ 0 → (hx hs (k - 1)).ad < (hx hs k).ad := by
    intro k hk h0
    have := (v_parts h).2.2 k hk
    unfold okA at this
    rw [Bool.and_eq_true] at this
    have := of_decide_eq_true this.2
    omega
  obtain ⟨d, rfl⟩ : ∃ d, j = i + 1 + d := ⟨j - (i + 1), by omega⟩
  clear hij
  induction d with
  | zero => have := step (i + 1) hj (by omega); simpa using this
  | succ d ih => have h1 := ih (by omega); have h2 := step (i + 1 + (d + 1)) hj (by omega); rw [show i + 1 + (d + 1) - 1 = i + 1 + d by omega] at h2; omega
theorem one_parts {m : Int} {h : Hd} (e : one m h = true) : (1 ≤ h.ad ∧ h.ad ≤ 65535) ∧ (1 ≤ h.fr ∧ h.fr ≤ 9999) ∧ half h.eo h.ea h.eb h.et false m = true ∧ half h.oo h.oa h.ob h.ot true m = true := by
  unfold one at e
  rw [Bool.and_eq_true, Bool.and_eq_true, Bool.and_eq_true] at e
  exact ⟨of_decide_eq_true e.1, of_decide_eq_true e.2.1, e.2.2.1, e.2.2.2⟩
theorem half_time {o : Bool} {a b t : Int} {odd : Bool} {m : Int} (h : half o a b t odd m = true) : t = -1 ∨ (0 ≤ t ∧ t ≤ m) := by
  unfold half at h
  split at h
  · exact .inl (by assumption)
  · rw [Bool.and_eq_true] at h
    exact .inr (of_decide_eq_true h.1)
theorem half_none {o : Bool} {a b t : Int} {odd : Bool} {m : Int} (h : half o a b t odd m = true) (ht : t = -1) : o = false ∧ a = 0 ∧ b = 0 := by
  unfold half at h
  rw [if_pos ht] at h
  simpa using h

/- The place of an aircraft. -/
def lead : List Hd → Int → Nat
  | [], _ => 0
  | h :: t, x => if h.ad < x then lead t x + 1 else 0
theorem lead_le (hs : List Hd) (x : Int) : lead hs x ≤ hs.length := by
  induction hs with
  | nil => exact Nat.le_refl _
  | cons h t ih => simp only [lead]; split <;> simp <;> omega
theorem lead_lt {hs : List Hd} {x : Int} {j : Nat} (h : j < lead hs x) : (hx hs j).ad < x := by
  induction hs generalizing j with
  | nil => simp [lead] at h
  | cons a t ih =>
    simp only [lead] at h
    split at h
    · rename_i ha
      cases j with
      | zero => exact ha
      | succ j => rw [hx_cons]; exact ih (by omega)
    · omega
theorem lead_end {hs : List Hd} {x : Int} (h : lead hs x < hs.length) : ¬ (hx hs (lead hs x)).ad < x := by
  induction hs with
  | nil => simp at h
  | cons a t ih =>
    simp only [lead] at h ⊢
    split
    · rename_i ha
      rw [if_pos ha] at h
      rw [hx_cons]
      exact ih (by simpa using h)
    · rename_i ha
      exact ha
def known (hs : List Hd) (x : Int) : Bool := decide (lead hs x < hs.length ∧ (hx hs (lead hs x)).ad = x)
theorem known_iff {hs : List Hd} {x : Int} : known hs x = true ↔ lead hs x < hs.length ∧ (hx hs (lead hs x)).ad = x := by unfold known; exact decide_eq_true_iff
/-- A number that is between the smaller ones and the others is the place. -/
theorem lead_of {hs : List Hd} {x : Int} {k : Nat} (hk : k ≤ hs.length) (h1 : ∀ j, j < k → (hx hs j).ad < x) (h2 : k < hs.length → ¬ (hx hs k).ad < x) : lead hs x = k := by
  rcases Nat.lt_trichotomy (lead hs x) k with h | h | h
  · exact absurd (h1 _ h) (lead_end (by omega))
  · exact h
  · exact absurd (lead_lt h) (h2 (Nat.lt_of_lt_of_le h (lead_le _ _)))
theorem known_no {m : Int} {hs : List Hd} {x : Int} (hv : vB m hs = true) (h : known hs x = false) {k : Nat} (hk : k < hs.length) : (hx hs k).ad ≠ x := by
  intro e
  have hl : lead hs x = k := lead_of (by omega) (fun j hj => by have := v_up hv hj hk; omega) (fun _ => by omega)
  have : known hs x = true := known_iff.2 ⟨by omega, by rw [hl]; exact e⟩
  rw [this] at h; cases h
theorem known_at {m : Int} {hs : List Hd} {x : Int} (hv : vB m hs = true) {k : Nat} (hk : k < hs.length) (e : (hx hs k).ad = x) : known hs x = true ∧ lead hs x = k := by
  have hl : lead hs x = k := lead_of (by omega) (fun j hj => by have := v_up hv hj hk; omega) (fun _ => by omega)
  exact ⟨known_iff.2 ⟨by omega, by rw [hl]; exact e⟩, hl⟩

/-- The first one with an address. -/
def fi : List Hd → Int → Nat
  | [], _ => 0
  | h :: t, x => if h.ad = x then 0 else fi t x + 1
theorem fi_le (hs : List Hd) (x : Int) : fi hs x ≤ hs.length := by
  induction hs with
  | nil => exact Nat.le_refl _
  | cons h t ih => simp only [fi]; split <;> simp <;> omega
theorem fi_lt {hs : List Hd} {x : Int} {j : Nat} (h : j < fi hs x) : (hx hs j).ad ≠ x := by
  induction hs generalizing j with
  | nil => simp [fi] at h
  | cons a t ih =>
    simp only [fi] at h
    split at h
    · omega
    · rename_i ha
      cases j with
      | zero => exact ha
      | succ j => rw [hx_cons]; exact ih (by omega)
theorem fi_end {hs : List Hd} {x : Int} (h : fi hs x < hs.length) : (hx hs (fi hs x)).ad = x := by
  induction hs with
  | nil => simp at h
  | cons a t ih =>
    simp only [fi] at h ⊢
    split
    · rename_i ha; exact ha
    · rename_i ha
      rw [if_neg ha] at h
      rw [hx_cons]
      exact ih (by simpa using h)
theorem fi_of {hs : List Hd} {x : Int} {k : Nat} (hk : k < hs.length) (h : (hx hs k).ad = x) (hb : ∀ j, j < k → (hx hs j).ad ≠ x) : fi hs x = k := by
  rcases Nat.lt_trichotomy (fi hs x) k with h1 | h1 | h1
  · exact absurd (fi_end (by omega)) (hb _ h1)
  · exact h1
  · exact absurd h (fi_lt h1)
theorem fi_none {hs : List Hd} {x : Int} (hb : ∀ j, j < hs.length → (hx hs j).ad ≠ x) : fi hs x = hs.length := by
  rcases Nat.lt_or_ge (fi hs x) hs.length with h | h
  · exact absurd (fi_end h) (hb _ h)
  · have := fi_le hs x; omega
def fiI (hs : List Hd) (x : Int) : Int := if fi hs x < hs.length then (fi hs x : Int) else -1
theorem fi_known {hs : List Hd} {x : Int} (hk : known hs x = true) : fiI hs x = (lead hs x : Int) := by
  obtain ⟨h1, h2⟩ := known_iff.1 hk
  have : fi hs x = lead hs x := fi_of h1 h2 (fun j hj => by have := lead_lt hj; omega)
  unfold fiI
  rw [this, if_pos h1]
theorem fi_unknown {m : Int} {hs : List Hd} {x : Int} (hv : vB m hs = true) (hk : known hs x = false) : fiI hs x = -1 := by
  have : fi hs x = hs.length := fi_none (fun j hj => known_no hv hk hj)
  unfold fiI
  rw [this, if_neg (Nat.lt_irrefl _)]
theorem fi_in (hs : List Hd) (x : Int) : -1 ≤ fiI hs x ∧ fiI hs x ≤ hs.length := by
  have := fi_le hs x
  unfold fiI
  split <;> omega

/- HeardFrom. -/
def hfB (m : Int) (hs : List Hd) (x : Int) : Bool := vB m hs && known hs x
def hfH (m : Int) (hs : List Hd) (x : Int) : Hd := if hfB m hs x then hx hs (lead hs x) else zero
theorem hf_bad {m : Int} {hs : List Hd} {x : Int} (h : vB m hs = false) : hfB m hs x = false ∧ hfH m hs x = zero := by
  have : hfB m hs x = false := by unfold hfB; rw [h]; rfl
  exact ⟨this, by unfold hfH; rw [this]; rfl⟩
theorem hf_no {m : Int} {hs : List Hd} {x : Int} (h : known hs x = false) : hfB m hs x = false ∧ hfH m hs x = zero := by
  have : hfB m hs x = false := by unfold hfB; rw [h]; simp
  exact ⟨this, by unfold hfH; rw [this]; rfl⟩
theorem hf_yes {m : Int} {hs : List Hd} {x : Int} (hv : vB m hs = true) (h : known hs x = true) : hfB m hs x = true ∧ hfH m hs x = hx hs (lead hs x) := by
  have : hfB m hs x = true := by unfold hfB; rw [hv, h]; rfl
  exact ⟨this, by unfold hfH; rw [this]; rfl⟩

/- PositionNow. -/
def posB (m : Int) (h : Hd) : Bool := decide (0 ≤ h.et ∧ 0 ≤ h.ot ∧ m - 10 ≤ h.et ∧ m - 10 ≤ h.ot) && dpB h.eo h.ea h.eb h.oo h.oa h.ob
def posX (m : Int) (h : Hd) : Int := if posB m h then both h.ea h.oa else 0
def posY (m : Int) (h : Hd) : Int := if posB m h then both h.eb h.ob else 0
def pnB (m : Int) (hs : List Hd) (x : Int) : Bool := hfB m hs x && posB m (hx hs (lead hs x))
def pnX (m : Int) (hs : List Hd) (x : Int) : Int := if hfB m hs x then posX m (hx hs (lead hs x)) else 0
def pnY (m : Int) (hs : List Hd) (x : Int) : Int := if hfB m hs x then posY m (hx hs (lead hs x)) else 0

/- Receive. -/
def fresh (A : Int) : Hd := ⟨A, false, 0, 0, -1, false, 0, 0, -1, 0⟩
def withF (h : Hd) (K D t : Int) : Hd :=
  if K = 2 ∧ ukB D = true then (if ukO D then { h with oo := ukO D, oa := ukA D, ob := ukV D, ot := t, fr := h.fr + 1 } else { h with eo := ukO D, ea := ukA D, eb := ukV D, et := t, fr := h.fr + 1 })
  else { h with fr := h.fr + 1 }
def rL (hs : List Hd) (K A D t : Int) : List Hd :=
  if known hs A then hs.take (lead hs A) ++ [withF (hx hs (lead hs A)) K D t] ++ hs.drop (lead hs A + 1) else hs.take (lead hs A) ++ [withF (fresh A) K D t] ++ hs.drop (lead hs A)
theorem rL_length (hs : List Hd) (K A D t : Int) : (rL hs K A D t).length ≤ hs.length + 1 := by
  have := lead_le hs A
  unfold rL
  split <;> simp <;> omega
def goB (m : Int) (hs : List Hd) (t : Int) : Bool := vB m hs && (isIn t 0 9999 && decide (m ≤ t))
def rcB (m : Int) (hs : List Hd) (s : ByteArray) (t : Int) : Bool := goB m hs t && (frm.rfB s && vB t (rL hs (frm.rfK s) (frm.rfA s) (frm.rfD s) t))
def rcM (m : Int) (hs : List Hd) (s : ByteArray) (t : Int) : Int := if rcB m hs s t then t else 0
def rcL (m : Int) (hs : List Hd) (s : ByteArray) (t : Int) : List Hd := if rcB m hs s t then rL hs (frm.rfK s) (frm.rfA s) (frm.rfD s) t else []
theorem rc_valid {m : Int} {hs : List Hd} {s : ByteArray} {t : Int} (h : rcB m hs s t = true) : vB (rcM m hs s t) (rcL m hs s t) = true := by
  unfold rcM rcL
  rw [if_pos h, if_pos h]
  unfold rcB at h
  rw [Bool.and_eq_true, Bool.and_eq_true] at h
  exact h.2.2

/- PassTime. -/
def ptOne (t : Int) (h : Hd) : Hd :=
  { h with eo := if h.et < t - 10 then false else h.eo, ea := if h.et < t - 10 then 0 else h.ea, eb := if h.et < t - 10 then 0 else h.eb, et := if h.et < t - 10 then -1 else h.et,
           oo := if h.ot < t - 10 then false else h.oo, oa := if h.ot < t - 10 then 0 else h.oa, ob := if h.ot < t - 10 then 0 else h.ob, ot := if h.ot < t - 10 then -1 else h.ot }
def keep (h : Hd) : Bool := decide (0 ≤ h.et ∨ 0 ≤ h.ot)
def ptL (hs : List Hd) (t : Int) : List Hd := (hs.map (ptOne t)).filter keep
theorem pt_step {hs : List Hd} {k : Nat} (t : Int) (hk : k < hs.length) : ptL (hs.take (k + 1)) t = ptL (hs.take k) t ++ if keep (ptOne t (hx hs k)) then [ptOne t (hx hs k)] else [] := by
  unfold ptL
  rw [List.take_add_one, hx_some hk, List.map_append, List.filter_append]
  congr 1
  simp only [Option.toList, List.map_cons, List.map_nil, List.filter_cons, List.filter_nil]
theorem pt_length (hs : List Hd) (t : Int) : (ptL hs t).length ≤ hs.length := by
  unfold ptL
  exact Nat.le_trans (List.length_filter_le _ _) (by simp)

/- FreshAddresses. -/
def faL (m : Int) (hs : List Hd) : List Int := (hs.filter (posB m)).map Hd.ad
theorem fa_step {m : Int} {hs : List Hd} {k : Nat} (hk : k < hs.length) : faL m (hs.take (k + 1)) = faL m (hs.take k) ++ if posB m (hx hs k) then [(hx hs k).ad] else [] := by
  unfold faL
  rw [List.take_add_one, hx_some hk, List.filter_append, List.map_append]
  congr 1
  simp only [Option.toList, List.filter_cons, List.filter_nil]
  split <;> rfl
theorem fa_length (m : Int) (hs : List Hd) : (faL m hs).length ≤ hs.length := by
  unfold faL
  rw [List.length_map]
  exact List.length_filter_le _ _
def faV (m : Int) (hs : List Hd) : List Int := if vB m hs then faL m hs else []

/- TotalFrames. -/
def sumF (hs : List Hd) : Int := (hs.map Hd.fr).sum
theorem sum_step {hs : List Hd} {k : Nat} (hk : k < hs.length) : sumF (hs.take (k + 1)) = sumF (hs.take k) + (hx hs k).fr := by
  unfold sumF
  rw [List.take_add_one, hx_some hk, List.map_append, List.sum_append]
  simp
theorem sum_in {m : Int} {hs : List Hd} (hv : vB m hs = true) : ∀ k, k ≤ hs.length → 0 ≤ sumF (hs.take k) ∧ sumF (hs.take k) ≤ 9999 * k
  | 0, _ => by simp [sumF]
  | k + 1, h => by
    have h1 := sum_in hv k (by omega)
    have h2 := (one_parts (v_one hv (k := k) (by omega))).2.1
    rw [sum_step (by omega)]
    omega
def tfV (m : Int) (hs : List Hd) : Int := if vB m hs then sumF hs else 0

/- ReceiveAll. -/
def raS (t : Int) : List ByteArray → Int × List Hd × Int → Int × List Hd × Int
  | [], q => q
  | s :: l, (m, hs, n) => raS t l (if rcB m hs s t then (t, rL hs (frm.rfK s) (frm.rfA s) (frm.rfD s) t, n + 1) else (m, hs, n))
end Go.Proofs.Ytdjcbfeilkepmaa.rcv
