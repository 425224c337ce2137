/- FormatInt of impl and spec at every number; what it formats can be parsed. -/
import Derived.Test.YtedocpocfpopgaaDoorFmt
import Derived.Test.YtedocpocfpopgaaDoorRead
namespace Go.Proofs.YtedocpocfpopgaaDoor.fmtall
open Go.RowKit Go.Proofs.YtedocpocfpopgaaDoor.num Go.Proofs.YtedocpocfpopgaaDoor.read

def fmB (n : Int) : Bool := decide (-999999 ≤ n) && decide (n ≤ 999999)
def fmT (n : Int) : ByteArray := if fmB n then txt n else ⟨#[]⟩

theorem no {n : Int} (h : n < -999999 ∨ 999999 < n) : Ending.returned (.tuple #[.string ⟨#[]⟩, .bool false]) = .returned (.tuple #[.string (fmT n), .bool (fmB n)]) := by
  have hb : fmB n = false := by unfold fmB; simp; omega
  unfold fmT; rw [hb]; rfl
theorem yes {n : Int} (h1 : n ≤ 999999) (h2 : -999999 ≤ n) : Ending.returned (.tuple #[.string (txt n), .bool true]) = .returned (.tuple #[.string (fmT n), .bool (fmB n)]) := by
  have hb : fmB n = true := by unfold fmB; simp; omega
  unfold fmT; rw [hb]; rfl

theorem impl (n : Int) (w : World) (ht : fmt.Tab w) : Calls Tryd.prog 91 #[.int .i64 n] w fun e w' => e = .returned (.tuple #[.string (fmT n), .bool (fmB n)]) ∧ Below w.heap.size w w' := by
  by_cases h : n < -999999 ∨ 999999 < n
  · exact (fmt.format_no n w h).mono fun e w' ⟨he, hw⟩ => ⟨he.trans (no h), hw ▸ Below.refl _ _⟩
  · exact (fmt.format_yes n w (by omega) (by omega) ht).mono fun e w' ⟨he, hw⟩ => ⟨he.trans (yes (by omega) (by omega)), hw⟩

theorem size (n : Int) : (fmT n).size ≤ 21 := by
  unfold fmT
  split
  · rename_i h
    unfold fmB at h
    simp at h
    exact txt_size n (by omega) (by omega)
  · exact Nat.zero_le _

theorem back {n : Int} (h : fmB n = true) : rdB (fmT n) = true ∧ rdN (fmT n) = n := by
  have h2 := h
  unfold fmB at h2
  simp at h2
  have e : fmT n = txt n := by unfold fmT; rw [h]; rfl
  rw [e]
  obtain ⟨h3, h4⟩ := rd_of_txt (s := txt n) (n := n) (by omega) (by omega) (by simp)
  exact ⟨h3, by unfold rdN; rw [h3]; exact h4⟩
end Go.Proofs.YtedocpocfpopgaaDoor.fmtall
