/- Arrays of five ints as keys of a map; blind points over keys of five. -/
import Derived.Test.YtpbopiecfnedgabBlnI
import Derived.DeepKeys4
import Derived.WalkArith
namespace Go.Proofs.Ytpbopiecfnedgab.blnp
open Go.RowKit Go.Proofs.Ytpbopiecfnedgab.sit Go.Proofs.Ytpbopiecfnedgab.loc Go.Proofs.Ytpbopiecfnedgab.bln Go.Proofs.Ytpbopiecfnedgab.blni
open Go.WideMaps (KeyLaw)

set_option maxRecDepth 100000 in
theorem laid5 : laidOutB Try.prog = true := by kernel_rfl
theorem row5 : 86 < Try.prog.types.size := of_decide_eq_true (by kernel_rfl)
theorem law5 : KeyLaw Try.prog 86 := deep_law_laid laid5 (m := 2) (by omega) row5 (by kernel_rfl) (by rw [Try.underlying86])
theorem cells5 : Try.prog.cellsOf 86 = 5 := by kernel_rfl
theorem cells1 : Try.prog.cellsOf 3 = 1 := by kernel_rfl
theorem type5 : Try.prog.keyType 86 = true := by kernel_rfl

theorem lits5 (d : Nat) {a b c e f : Int} (ha : (Lit.int .i64 a).wf = true) (hb : (Lit.int .i64 b).wf = true) (hc : (Lit.int .i64 c).wf = true) (he : (Lit.int .i64 e).wf = true) (hf : (Lit.int .i64 f).wf = true) :
    Try.prog.keyLits (d + 2) 86 [.int .i64 a, .int .i64 b, .int .i64 c, .int .i64 e, .int .i64 f] = some [.int .i64 a, .int .i64 b, .int .i64 c, .int .i64 e, .int .i64 f] := by
  have h (x : Int) (hx : (Lit.int .i64 x).wf = true) : Try.prog.keyLits (d + 1) 3 [.int .i64 x] = some [.int .i64 x] := by
    unfold Program.keyLits
    rw [Try.underlying3]
    simp [hx]
  have e5 := cells5
  have e1 := cells1
  unfold Program.keyLits
  rw [Try.underlying86]
  simp [List.range, List.range.loop, h, ha, hb, hc, he, hf, e5, e1]

theorem key5 {a b c e f : Int} (ha : (Lit.int .i64 a).wf = true) (hb : (Lit.int .i64 b).wf = true) (hc : (Lit.int .i64 c).wf = true) (he : (Lit.int .i64 e).wf = true) (hf : (Lit.int .i64 f).wf = true) :
    ∃ kl, keyOf Try.prog 86 (.agg #[.int .i64 a, .int .i64 b, .int .i64 c, .int .i64 e, .int .i64 f]) = some kl := by
  have hs : ∃ d, Try.prog.types.size + 1 = d + 2 := ⟨Try.prog.types.size - 1, by have := row5; omega⟩
  obtain ⟨d, hd⟩ := hs
  have h2 : (Value.agg #[.int .i64 a, .int .i64 b, .int .i64 c, .int .i64 e, .int .i64 f]).formed Try.prog 86 = true := by
    unfold Value.formed
    rw [Try.underlying86]
    simp [cells5]
  unfold keyOf
  rw [Try.underlying86]
  simp only [type5, h2, Bool.and_self, if_true, hd]
  have := lits5 d ha hb hc he hf
  exact ⟨_, by show Option.map _ (Program.keyLits _ _ _ [.int .i64 a, .int .i64 b, .int .i64 c, .int .i64 e, .int .i64 f]) = _; rw [this]; rfl⟩

/-- The key of a point in five numbers. -/
def k5 (zs : List Int) (n k : Nat) : List Int := (List.range 5).map fun i => if i < n then ds zs (pX k) (pY k) i - ds zs (pX k) (pY k) 0 else 0
def v5 (l : List Int) : Value := .agg (l.map (Value.int .i64)).toArray
theorem k5_pad (zs : List Int) (n k : Nat) : v5 (k5 zs n k) = .agg (padC zs (pX k) (pY k) n) := rfl
theorem k5_ky {zs : List Int} {n : Nat} (hn : n ≤ 5) (j k : Nat) : k5 zs n j = k5 zs n k ↔ kyT zs n j = kyT zs n k := by
  have h (x : Nat) (i : Nat) (hi : i < n) : (k5 zs n x)[i]? = (kyT zs n x)[i]? := by
    unfold k5 kyT
    rw [List.getElem?_map, List.getElem?_map, List.getElem?_range (by omega), List.getElem?_range hi]
    show some (if i < n then _ else _) = _
    rw [if_pos hi]; rfl
  have h0 (x : Nat) (i : Nat) (hi : ¬ i < n) (h5 : i < 5) : (k5 zs n x)[i]? = some 0 := by
    unfold k5
    rw [List.getElem?_map, List.getElem?_range h5]
    show some (if i < n then _ else _) = _
    rw [if_neg hi]
  have l5 (x : Nat) : (k5 zs n x).length = 5 := by simp [k5]
  constructor
  · intro e
    refine List.ext_getElem? fun i => ?_
    by_cases hi : i < n
    · rw [← h j i hi, ← h k i hi, e]
    · rw [List.getElem?_eq_none (by rw [kyT_length]; omega), List.getElem?_eq_none (by rw [kyT_length]; omega)]
  · intro e
    refine List.ext_getElem? fun i => ?_
    by_cases hi : i < n
    · rw [h j i hi, h k i hi, e]
    · by_cases h5 : i < 5
      · rw [h0 j i hi h5, h0 k i hi h5]
      · rw [List.getElem?_eq_none (by rw [l5]; omega), List.getElem?_eq_none (by rw [l5]; omega)]
theorem blF_same {α β : Type} [DecidableEq α] [DecidableEq β] (f : Nat → α) (g : Nat → β) (h : ∀ j k, f j = f k ↔ g j = g k) (N : Nat) : blF f N = blF g N := by
  have hc (k : Nat) : cF f (f k) N = cF g (g k) N := by
    unfold cF
    exact List.countP_congr fun j _ => by simp [h]
  unfold blF
  exact List.countP_congr fun k _ => by rw [hc]
theorem blN_five {zs : List Int} {n : Nat} (hn : n ≤ 5) : blF (k5 zs n) 961 = blN zs n := blF_same _ _ (k5_ky hn) 961
theorem key_of {zs : List Int} {n : Nat} (hon : onT zs n = true) (hn0 : 0 < n) {k : Nat} (hk : k < 961) : ∃ kl, keyOf Try.prog 86 (v5 (k5 zs n k)) = some kl := by
  have d0 := ds_in hon hn0 (p_on hk)
  have h (i : Nat) : (Lit.int .i64 (if i < n then ds zs (pX k) (pY k) i - ds zs (pX k) (pY k) 0 else 0)).wf = true := by
    split
    · rename_i hi
      have := ds_in hon hi (p_on hk)
      exact WalkArith.wf_i64 (by omega)
    · exact WalkArith.wf_i64 (by omega)
  exact key5 (h 0) (h 1) (h 2) (h 3) (h 4)
end Go.Proofs.Ytpbopiecfnedgab.blnp
