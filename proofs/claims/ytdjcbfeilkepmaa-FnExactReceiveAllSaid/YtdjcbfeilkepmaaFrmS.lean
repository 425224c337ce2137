/- spec's frames: one frame. -/
import Derived.Test.YtdjcbfeilkepmaaFrm
import Derived.Test.YtdjcbfeilkepmaaParR
import Derived.Test.YtdjcbfeilkepmaaHexS
import Derived.Test.YtdjcbfeilkepmaaIn
import Derived.BigQuiet
import Derived.Deep.QuietTactic
import Derived.Laws.ResultCell
namespace Go.Proofs.Ytdjcbfeilkepmaa.frms
open Go.RowKit Go.Proofs.Ytdjcbfeilkepmaa.bin Go.Proofs.Ytdjcbfeilkepmaa.good_ Go.Proofs.Ytdjcbfeilkepmaa.par Go.Proofs.Ytdjcbfeilkepmaa.in_ Go.Proofs.Ytdjcbfeilkepmaa.frm

theorem address5 (A : Int) (w : World) : Calls Try.prog 133 #[.int .i64 A] w fun e w' => e = .returned (.bool (isIn A 1 65535)) ∧ w = w' := by
  have HI := Lib.hid (fun w => l1In A 1 65535 w)
  generalize isIn A 1 65535 = b at *
  go_enter Try.func133, Try.ntmps133
  go_wp2_with fail
  refine (HI.out _).mono ?_
  rintro e w1 ⟨rfl, rfl⟩
  go_wp2_with fail
  go_ret
  exact ⟨rfl, rfl⟩
theorem good_parts (K A D : Int) : good K A D = (isIn K 1 4 && (isIn A 1 65535 && isIn D 0 16777215)) := by
  unfold good isIn
  rw [Bool.eq_iff_iff]
  simp only [Bool.and_eq_true, decide_eq_true_eq]
  omega
theorem good5 (K A D : Int) (w : World) : Calls Try.prog 194 #[.agg #[.int .i64 K, .int .i64 A, .int .i64 D]] w fun e w' => e = .returned (.bool (good K A D)) ∧ Below w.heap.size w w' := by
  rw [good_parts]
  have H1 := Lib.hid (fun w => l1In K 1 4 w)
  have H2 := Lib.hid (fun w => address5 A w)
  have H3 := Lib.hid (fun w => l1In D 0 16777215 w)
  generalize isIn K 1 4 = b1 at *
  generalize isIn A 1 65535 = b2 at *
  generalize isIn D 0 16777215 = b3 at *
  cases b1
  · go_enter Try.func194, Try.ntmps194
    go_wp2_with fail
    refine (H1.out _).mono ?_
    rintro e w1 ⟨rfl, rfl⟩
    go_wp2_with fail
    go_ret
    exact ⟨rfl, (Below.refl _ _).alloc (Nat.le_refl _) _⟩
  · cases b2
    · go_enter Try.func194, Try.ntmps194
      go_wp2_with fail
      refine (H1.out _).mono ?_
      rintro e w1 ⟨rfl, rfl⟩
      go_wp2_with fail
      refine (H2.out _).mono ?_
      rintro e w1 ⟨rfl, rfl⟩
      go_wp2_with fail
      go_ret
      exact ⟨rfl, (Below.refl _ _).alloc (Nat.le_refl _) _⟩
    · go_enter Try.func194, Try.ntmps194
      go_wp2_with fail
      refine (H1.out _).mono ?_
      rintro e w1 ⟨rfl, rfl⟩
      go_wp2_with fail
      refine (H2.out _).mono ?_
      rintro e w1 ⟨rfl, rfl⟩
      go_wp2_with fail
      refine (H3.out _).mono ?_
      rintro e w1 ⟨rfl, rfl⟩
      go_wp2_with fail
      go_ret
      exact ⟨by simp, (Below.refl _ _).alloc (Nat.le_refl _) _⟩
theorem plain_text {K A D : Nat} (ha : A ≤ 65535) (hd : D ≤ 16777215) : (⟨(enc 2 4 K).toArray⟩ : ByteArray) ++ ⟨(enc 2 16 A).toArray⟩ ++ ⟨(enc 2 24 D).toArray⟩ = plainT (num K A D) := by
  apply aid.str_ext
  rw [aid.str_app, aid.str_app]
  exact plain_parts ha hd
theorem hex_of {n : Nat} (h : n < 17592186044416) : (⟨(enc 16 ((bitsT n).size / 4) (dec 2 (bitsT n).data.toList)).toArray⟩ : ByteArray) = hexT n := by
  rw [bits_size, dec_bits h]
  rfl
theorem enc_no {K A D : Int} (h : good K A D = false) : Ending.returned (.tuple #[.string ⟨#[]⟩, .bool false]) = .returned (.tuple #[.string (encT K A D), .bool (good K A D)]) := by unfold encT; rw [h]; rfl
theorem enc_yes {K A D : Nat} (h : good K A D = true) : Ending.returned (.tuple #[.string (hexT (num K A D)), .bool true]) = .returned (.tuple #[.string (encT K A D), .bool (good K A D)]) := by unfold encT numI; rw [h]; simp
end Go.Proofs.Ytdjcbfeilkepmaa.frms
