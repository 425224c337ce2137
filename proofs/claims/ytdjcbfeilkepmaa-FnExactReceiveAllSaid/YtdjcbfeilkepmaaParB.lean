/- Which bits are wrong: plain mathematics over the patterns, and what RepairBit, PatternOf and WeakestFlips return. -/
import Derived.Test.YtdjcbfeilkepmaaPar
namespace Go.Proofs.Ytdjcbfeilkepmaa.par
open Go.RowKit Go.Proofs.Ytdjcbfeilkepmaa.bin Go.Proofs.Ytdjcbfeilkepmaa.good_

/-- Is y one of the first n patterns; at which place; is it two of them combined; how many must be combined? -/
def has (n y : Nat) : Bool := (List.range n).any (fun j => pat j == y)
def place (n y : Nat) : Nat := (List.range n).findIdx (fun j => pat j == y)
def two (n y : Nat) : Bool := (List.range n).any (fun i => has n (y ^^^ pat i))
def weak (n y : Nat) : Nat := if y = 0 then 0 else if has n y then 1 else if two n y then 2 else 3
theorem has_iff (n y : Nat) : has n y = true ↔ ∃ j, j < n ∧ pat j = y := by
  unfold has
  rw [List.any_eq_true]
  constructor
  · rintro ⟨j, hj, h⟩
    exact ⟨j, List.mem_range.1 hj, by simpa using h⟩
  · rintro ⟨j, hj, h⟩
    exact ⟨j, List.mem_range.2 hj, by simpa using h⟩
theorem has_no {n y : Nat} (h : has n y = false) {j : Nat} (hj : j < n) : pat j ≠ y := fun e => by
  rw [(has_iff n y).2 ⟨j, hj, e⟩] at h
  cases h
theorem has_not {n y : Nat} (h : ∀ j, j < n → pat j ≠ y) : has n y = false := by
  cases hb : has n y
  · rfl
  · obtain ⟨j, hj, e⟩ := (has_iff n y).1 hb
    exact absurd e (h j hj)
theorem place_at {n y : Nat} (h : has n y = true) : place n y < n ∧ pat (place n y) = y := by
  unfold has at h
  unfold place
  have h1 : (List.range n).findIdx (fun j => pat j == y) < (List.range n).length := List.findIdx_lt_length_of_exists (by simpa using h)
  have h2 := List.findIdx_getElem (w := h1)
  rw [List.getElem_range] at h2
  rw [List.length_range] at h1
  exact ⟨h1, by simpa using h2⟩
theorem place_eq {n y j : Nat} (hn : n ≤ 64) (hj : j < n) (h : pat j = y) : place n y = j := by
  have h1 := place_at ((has_iff n y).2 ⟨j, hj, h⟩)
  exact pat_inj (by omega) (by omega) (h1.2.trans h.symm)
theorem two_iff (n y : Nat) : two n y = true ↔ ∃ i j, i < n ∧ j < n ∧ pat j = y ^^^ pat i := by
  unfold two
  rw [List.any_eq_true]
  constructor
  · rintro ⟨i, hi, h⟩
    obtain ⟨j, hj, e⟩ := (has_iff _ _).1 h
    exact ⟨i, j, List.mem_range.1 hi, hj, e⟩
  · rintro ⟨i, j, hi, hj, e⟩
    exact ⟨i, List.mem_range.2 hi, (has_iff _ _).2 ⟨j, hj, e⟩⟩
theorem two_not {n y : Nat} (h : ∀ i, i < n → has n (y ^^^ pat i) = false) : two n y = false := by
  cases hb : two n y
  · rfl
  · obtain ⟨i, j, hi, hj, e⟩ := (two_iff n y).1 hb
    have := (has_iff n (y ^^^ pat i)).2 ⟨j, hj, e⟩
    rw [h i hi] at this
    cases this
theorem weak0 (n : Nat) : weak n 0 = 0 := by unfold weak; rw [if_pos rfl]
theorem weak1 {n y : Nat} (h0 : y ≠ 0) (h : has n y = true) : weak n y = 1 := by unfold weak; rw [if_neg h0, if_pos h]
theorem weak2 {n y : Nat} (h0 : y ≠ 0) (h : has n y = false) (h2 : two n y = true) : weak n y = 2 := by unfold weak; rw [if_neg h0, if_neg (by rw [h]; decide), if_pos h2]
theorem weak3 {n y : Nat} (h0 : y ≠ 0) (h : has n y = false) (h2 : two n y = false) : weak n y = 3 := by unfold weak; rw [if_neg h0, if_neg (by rw [h]; decide), if_neg (by rw [h2]; decide)]
theorem weak_le (n y : Nat) : weak n y ≤ 3 := by unfold weak; split; omega; split; omega; split <;> omega

def repB (s : ByteArray) : Bool := sndB s && (decide (syn s = 0) || has s.size (syn s))
def repK (s : ByteArray) : Nat := s.size - 1 - place s.size (syn s)
def repI (s : ByteArray) : Int := if repB s then (if syn s = 0 then -1 else (repK s : Int)) else 0
def repT (s : ByteArray) : ByteArray := if repB s then (if syn s = 0 then s else flipT s (repK s)) else ⟨#[]⟩
def wkV (s : ByteArray) : Nat := if sndB s then weak s.size (syn s) else 0
def ptB (l i : Int) : Bool := decide (12 ≤ l ∧ l ≤ 64 ∧ 0 ≤ i ∧ i < l)
def ptT (l i : Int) : ByteArray := if ptB l i then ⟨(enc 2 12 (pat (l - 1 - i).toNat)).toArray⟩ else ⟨#[]⟩
theorem rep_no1 {s : ByteArray} (h : sndB s = false) : Ending.returned (.tuple #[.string ⟨#[]⟩, .int .i64 0, .bool false]) = .returned (.tuple #[.string (repT s), .int .i64 (repI s), .bool (repB s)]) := by
  have : repB s = false := by unfold repB; rw [h]; rfl
  unfold repT repI
  rw [this]; rfl
theorem rep_no2 {s : ByteArray} (h0 : syn s ≠ 0) (h : has s.size (syn s) = false) : Ending.returned (.tuple #[.string ⟨#[]⟩, .int .i64 0, .bool false]) = .returned (.tuple #[.string (repT s), .int .i64 (repI s), .bool (repB s)]) := by
  have : repB s = false := by unfold repB; rw [h, decide_eq_false h0]; simp
  unfold repT repI
  rw [this]; rfl
theorem rep_yes0 {s : ByteArray} (hs : sndB s = true) (h0 : syn s = 0) : Ending.returned (.tuple #[.string s, .int .i64 (-1), .bool true]) = .returned (.tuple #[.string (repT s), .int .i64 (repI s), .bool (repB s)]) := by
  have : repB s = true := by unfold repB; rw [hs, decide_eq_true h0]; rfl
  unfold repT repI
  rw [this, if_pos rfl, if_pos rfl, if_pos h0, if_pos h0]
theorem rep_yes1 {s : ByteArray} {k : Nat} (hs : sndB s = true) (h0 : syn s ≠ 0) (hk : k < s.size) (hp : pat (s.size - 1 - k) = syn s) (h64 : s.size ≤ 64) : Ending.returned (.tuple #[.string (flipT s k), .int .i64 k, .bool true]) = .returned (.tuple #[.string (repT s), .int .i64 (repI s), .bool (repB s)]) := by
  have hh : has s.size (syn s) = true := (has_iff _ _).2 ⟨s.size - 1 - k, by omega, hp⟩
  have hpl := place_eq h64 (show s.size - 1 - k < s.size by omega) hp
  have hK : repK s = k := by unfold repK; rw [hpl]; omega
  have : repB s = true := by unfold repB; rw [hs, hh]; simp
  unfold repT repI
  rw [this, if_pos rfl, if_pos rfl, if_neg h0, if_neg h0, hK]
theorem wk_no {s : ByteArray} (h : sndB s = false) : Ending.returned (.tuple #[.int .i64 0, .bool false]) = .returned (.tuple #[.int .i64 (wkV s : Nat), .bool (sndB s)]) := by unfold wkV; rw [h]; rfl
theorem wk_yes {s : ByteArray} (h : sndB s = true) {v : Int} (hv : v = (weak s.size (syn s) : Nat)) : Ending.returned (.tuple #[.int .i64 v, .bool true]) = .returned (.tuple #[.int .i64 (wkV s : Nat), .bool (sndB s)]) := by unfold wkV; rw [h, hv]; rfl
theorem pt_no {l i : Int} (h : ptB l i = false) : Ending.returned (.tuple #[.string ⟨#[]⟩, .bool false]) = .returned (.tuple #[.string (ptT l i), .bool (ptB l i)]) := by unfold ptT; rw [h]; rfl
theorem pt_yes {l i : Int} (h : ptB l i = true) {j : Nat} (hj : (j : Int) = l - 1 - i) : Ending.returned (.tuple #[.string ⟨(enc 2 12 (pat j)).toArray⟩, .bool true]) = .returned (.tuple #[.string (ptT l i), .bool (ptB l i)]) := by
  have : (l - 1 - i).toNat = j := by omega
  unfold ptT
  rw [h, this]; rfl
end Go.Proofs.Ytdjcbfeilkepmaa.par
