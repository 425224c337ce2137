/- The reader of choices, on: bit strings (bits), spoilt strings (spoilt), and texts that are mostly bit strings (anyBits). -/
import Derived.Test.YtpjpdfannnafbaaCurInt
import Derived.Test.YtpjpdfannnafbaaBin
import Derived.BigQuiet
import Derived.Deep.QuietTactic
namespace Go.Proofs.Ytpjpdfannnafbaa.cur
open Go.RowKit Go.Proofs.Ytpjpdfannnafbaa.bin

theorem grown_drewN {w w' : World} {r : Option Nat} (h : w.grownBy w' r) (k : Nat) : w.grownBy (w'.drewN k) r := ⟨h.os, h.tape, h.output, h.size, h.block⟩
theorem cur_drewN {w : World} {p m : Nat} (h : Cur w p m) (k : Nat) : Cur (w.drewN k) p m := h.keep (aid.below_drewN (Below.refl _ _) k)
def szOf : Value → Nat
  | .string x => x.size
  | _ => 0

/-- One digit 0 or 1. -/
def Bit (x : ByteArray) : Prop := x.size = 1 ∧ ok 2 x.data.toList = true
theorem bit_list : ∀ x ∈ ([⟨#[48]⟩, ⟨#[49]⟩] : List ByteArray), Bit x := by
  intro x hx
  simp at hx
  rcases hx with rfl | rfl
  · exact ⟨rfl, by decide⟩
  · exact ⟨rfl, by decide⟩
def Bits (n : Nat) (x : ByteArray) : Prop := x.size ≤ n ∧ ok 2 x.data.toList = true
theorem bit_add {x y : ByteArray} (hx : ok 2 x.data.toList = true) (hy : Bit y) : ok 2 (x ++ y).data.toList = true ∧ (x ++ y).size = x.size + 1 := by
  refine ⟨?_, ?_⟩
  · rw [aid.str_app, ok_app, hx, hy.2]; rfl
  · rw [ByteArray.size_append, hy.1]

theorem cut_size (t : ByteArray) (i : Nat) (hi : i < t.size) (x : ByteArray) (hx : x.size = 1) :
    (t.extract 0 i ++ x ++ t.extract i t.size).size ≤ t.size + 1 ∧ (t.extract 0 i ++ x ++ t.extract (i + 1) t.size).size ≤ t.size + 1 ∧ (t.extract 0 i ++ t.extract (i + 1) t.size).size ≤ t.size + 1 := by
  simp only [ByteArray.size_append, ByteArray.size_extract, hx]
  omega

theorem empty_iff (t : ByteArray) : t.toList.isEmpty = decide (t.size = 0) := by
  rw [ByteArray.toList_eq]
  obtain ⟨⟨l⟩⟩ := t
  cases l <;> simp [← ByteArray.size_data]

end Go.Proofs.Ytpjpdfannnafbaa.cur
