/- spec.ParseHeight. -/
import Derived.Test.YtdeghpihcddlgaaDoorHgtF
namespace Go.Proofs.YtdeghpihcddlgaaDoor.hgth
open Go.RowKit Go.Proofs.YtdeghpihcddlgaaDoor.hgt Go.Proofs.YtdeghpihcddlgaaDoor.hgtt Go.Proofs.YtdeghpihcddlgaaDoor.num Go.Proofs.YtdeghpihcddlgaaDoor.read Go.Proofs.YtdeghpihcddlgaaDoor.hgtf

theorem l1Read (s : ByteArray) (w : World) :
    Calls Tryd.prog 48 #[.string s] w fun e w' => e = .returned (.tuple #[.int .i64 (rdN s), .bool (rdB s)]) ∧ ∃ j, w' = w.drewN j := by
  rcases Nat.lt_or_ge 1 s.size with h1 | h1
  · cases h : ((s[0].toNat : Int) == 45)
    · exact spec_pos s w (.inr ⟨by omega, h⟩)
    · exact spec_neg s w h1 h
  · exact spec_pos s w (.inl h1)

/-- The two tests as the walk leaves them. -/
theorem pre_raw {s : ByteArray} (h : 2 ≤ s.size) : ((s.extract 0 2).toList == [70, 76]) = pre s := by
  have h1 := Lib.hasPrefix_raw s fl
  have e1 : fl.size = 2 := rfl
  have e2 : fl.toList = [70, 76] := by rw [Lib.toList_data]; rfl
  rw [e1, e2, decide_eq_true h, Bool.true_and] at h1
  exact h1
theorem suf_raw {s : ByteArray} (h : 3 ≤ s.size) : ((s.extract (s.size - 3) s.size).toList == [32, 102, 116]) = suf s := by
  have h1 := Lib.hasSuffix_raw s ft
  have e1 : ft.size = 3 := rfl
  have e2 : ft.toList = [32, 102, 116] := by rw [Lib.toList_data]; rfl
  rw [e1, e2, decide_eq_true h, Bool.true_and] at h1
  exact h1
theorem cut_pre {s : ByteArray} (h : 2 ≤ s.size) (hp : pre s = true) : cutP s = s.extract 2 s.size := by
  have e1 : fl.size = 2 := rfl
  exact Lib.trimPrefix_hit s fl (by rw [e1]; exact h) (by rw [e1]; have := pre_raw h; rw [hp] at this; have e2 : fl.toList = [70, 76] := by rw [Lib.toList_data]; rfl
                                                          rw [e2]; exact this)
theorem cut_suf {s : ByteArray} (h : 3 ≤ s.size) (hp : suf s = true) : cutS s = s.extract 0 (s.size - 3) := by
  have e1 : ft.size = 3 := rfl
  exact Lib.trimSuffix_hit s ft (by rw [e1]; exact h) (by rw [e1]; have := suf_raw h; rw [hp] at this; have e2 : ft.toList = [32, 102, 116] := by rw [Lib.toList_data]; rfl
                                                          rw [e2]; exact this)
theorem no_form {s : ByteArray} (h1 : pre s = false ∨ s.size ≤ 2) (h2 : suf s = false ∨ s.size ≤ 3) : phB s = false := by
  cases h : phB s
  · rfl
  · rcases ph_forms h with ⟨a, _, _, b⟩ | ⟨_, a, _, _, b⟩
    · rcases h1 with h1 | h1
      · rw [a] at h1; cases h1
      · omega
    · rcases h2 with h2 | h2
      · rw [a] at h2; cases h2
      · omega
theorem no_read {s : ByteArray} (h1 : pre s = true → rdB (cutP s) = false) (h2 : pre s = false → rdB (cutS s) = false) : phB s = false := by
  cases h : phB s
  · rfl
  · rcases ph_forms h with ⟨a, b, _⟩ | ⟨a, _, b, _⟩
    · rw [h1 a] at b; cases b
    · rw [h2 a] at b; cases b

end Go.Proofs.YtdeghpihcddlgaaDoor.hgth
