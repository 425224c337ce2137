/- The bits of a velocity's code in plain mathematics. -/
import Derived.Test.YtdeghpihcddlgaaDoorVel
import Derived.Test.YtdeghpihcddlgaaDoorBin
import Derived.WalkKit
namespace Go.Proofs.YtdeghpihcddlgaaDoor.velb
open Go.Proofs.YtdeghpihcddlgaaDoor.vel Go.Proofs.YtdeghpihcddlgaaDoor.bin

/-- The eleven bits of a value. -/
def sgT (x : Int) : ByteArray := (if x < 0 then ⟨#[49]⟩ else ⟨#[48]⟩) ++ ⟨(bin.enc 2 10 x.natAbs).toArray⟩
theorem sg_neg {k : Nat} (h : 0 < k) : (⟨#[49]⟩ : ByteArray) ++ ⟨(bin.enc 2 10 k).toArray⟩ = sgT (-(k : Int)) := by
  unfold sgT
  rw [if_pos (by omega), show (-(k : Int)).natAbs = k by omega]
theorem sg_pos (k : Nat) : (⟨#[48]⟩ : ByteArray) ++ ⟨(bin.enc 2 10 k).toArray⟩ = sgT (k : Int) := by
  unfold sgT
  rw [if_neg (by omega), show ((k : Int)).natAbs = k by omega]
theorem sg_list (x : Int) : (sgT x).data.toList = (if x < 0 then 49 else 48) :: bin.enc 2 10 x.natAbs := by
  unfold sgT
  rw [aid.str_app]
  split <;> rfl
theorem list_size (s : ByteArray) : s.size = s.data.toList.length := by rw [Array.length_toList]; rfl
theorem sg_size (x : Int) : (sgT x).size = 11 := by rw [list_size, sg_list, List.length_cons, enc_length]
theorem sg_ok (x : Int) : ok 2 (sgT x).data.toList = true := by
  rw [sg_list, show ∀ (c : UInt8) (l : List UInt8), c :: l = [c] ++ l from fun _ _ => rfl, ok_app, ok_enc 2 (by omega) (by omega)]
  split <;> decide
theorem sg_dec {x : Int} (h : -200 ≤ x ∧ x ≤ 200) : (dec 2 (sgT x).data.toList : Int) = pk x := by
  rw [sg_list, show ∀ (c : UInt8) (l : List UInt8), c :: l = [c] ++ l from fun _ _ => rfl, dec_app, enc_length, dec_enc 2 (by omega) (by omega) 10 x.natAbs (by omega)]
  unfold pk
  split
  · rw [show dec 2 [49] = 1 by decide]; omega
  · rw [show dec 2 [48] = 0 by decide]; omega
theorem en_text {x y : Int} (hx : -200 ≤ x ∧ x ≤ 200) (hy : -200 ≤ y ∧ y ≤ 200) :
    (sgT x ++ sgT y ++ ⟨#[48, 48]⟩).size = 24 ∧ ok 2 (sgT x ++ sgT y ++ ⟨#[48, 48]⟩).data.toList = true ∧ (dec 2 (sgT x ++ sgT y ++ ⟨#[48, 48]⟩).data.toList : Int) = vel.enc x y := by
  refine ⟨?_, ?_, ?_⟩
  · rw [ByteArray.size_append, ByteArray.size_append, sg_size, sg_size]; rfl
  · rw [aid.str_app, aid.str_app, ok_app, ok_app, sg_ok, sg_ok]; decide
  · have hy2 : (sgT y).data.toList.length = 11 := by rw [← list_size, sg_size]
    rw [aid.str_app, aid.str_app, dec_app, dec_app, hy2]
    have e1 := sg_dec hx
    have e2 := sg_dec hy
    generalize dec 2 (sgT x).data.toList = a at *
    generalize dec 2 (sgT y).data.toList = b at *
    rw [show dec 2 [48, 48] = 0 by decide]
    unfold vel.enc
    rw [← e1, ← e2]
    show ((4 * (2 ^ 11 * a + b) + 0 : Nat) : Int) = _
    omega
end Go.Proofs.YtdeghpihcddlgaaDoor.velb
