/- spec's frames: one frame. -/
import Derived.Test.YtelkflgmjfmadaaFrm
import Derived.Test.YtelkflgmjfmadaaParR
import Derived.Test.YtelkflgmjfmadaaHexS
import Derived.Test.YtelkflgmjfmadaaIn
import Derived.BigQuiet
import Derived.Deep.QuietTactic
import Derived.Laws.ResultCell
namespace Go.Proofs.Ytelkflgmjfmadaa.frms
open Go.RowKit Go.Proofs.Ytelkflgmjfmadaa.bin Go.Proofs.Ytelkflgmjfmadaa.good_ Go.Proofs.Ytelkflgmjfmadaa.par Go.Proofs.Ytelkflgmjfmadaa.in_ Go.Proofs.Ytelkflgmjfmadaa.frm

theorem address5 (A : Int) (w : World) : Calls Try.prog 93 #[.int .i64 A] w fun e w' => e = .returned (.bool (isIn A 1 65535)) ∧ w = w' := by
  have HI := Lib.hid (fun w => l1In A 1 65535 w)
  generalize isIn A 1 65535 = b at *
  go_enter Try.func93, Try.ntmps93
  go_wp2_with fail
  refine (HI.out _).mono ?_
  rintro e w1 ⟨rfl, rfl⟩
  go_wp2_with fail
  go_ret
  exact ⟨rfl, rfl⟩
theorem good_parts (K A D : Int) : good K A D = (isIn K 1 4 && (isIn A 1 65535 && isIn D 0 16777215)) := by
  unfold good isIn
  rw [Bool.eq_iff_iff]
  simp only [Bool.and_eq_true, decide_eq_true_eq]
  omega
theorem good5 (K A D : Int) (w : World) : Calls Try.prog 130 #[.agg #[.int .i64 K, .int .i64 A, .int .i64 D]] w fun e w' => e = .returned (.bool (good K A D)) ∧ Below w.heap.size w w' := by
  rw [good_parts]
  have H1 := Lib.hid (fun w => l1In K 1 4 w)
  have H2 := Lib.hid (fun w => address5 A w)
  have H3 := Lib.hid (fun w => l1In D 0 16777215 w)
  generalize isIn K 1 4 = b1 at *
  generalize isIn A 1 65535 = b2 at *
  generalize isIn D 0 16777215 = b3 at *
  cases b1
  · go_enter Try.func130, Try.ntmps130
    go_wp2_with fail
    refine (H1.out _).mono ?_
    rintro e w1 ⟨rfl, rfl⟩
    go_wp2_with fail
    go_ret
    exact ⟨rfl, (Below.refl _ _).alloc (Nat.le_refl _) _⟩
  · cases b2
    · go_enter Try.func130, Try.ntmps130
      go_wp2_with fail
      refine (H1.out _).mono ?_
      rintro e w1 ⟨rfl, rfl⟩
      go_wp2_with fail
      refine (H2.out _).mono ?_
      rintro e w1 ⟨rfl, rfl⟩
      go_wp2_with fail
      go_ret
      exact ⟨rfl, (Below.refl _ _).alloc (Nat.le_refl _) _⟩
    · go_enter Try.func130, Try.ntmps130
      go_wp2_with fail
      refine (H1.out _).mono ?_
      rintro e w1 ⟨rfl, rfl⟩
      go_wp2_with fail
      refine (H2.out _).mono ?_
      rintro e w1 ⟨rfl, rfl⟩
      go_wp2_with fail
      refine (H3.out _).mono ?_
      rintro e w1 ⟨rfl, rfl⟩
      go_wp2_with fail
      go_ret
      exact ⟨by simp, (Below.refl _ _).alloc (Nat.le_refl _) _⟩
theorem plain_text {K A D : Nat} (ha : A ≤ 65535) (hd : D ≤ 16777215) : (⟨(enc 2 4 K).toArray⟩ : ByteArray) ++ ⟨(enc 2 16 A).toArray⟩ ++ ⟨(enc 2 24 D).toArray⟩ = plainT (num K A D) := by
  apply aid.str_ext
  rw [aid.str_app, aid.str_app]
  exact plain_parts ha hd
theorem l5Bits (K A D : Nat) (w : World) (hk : K ≤ 4) (ha : A ≤ 65535) (hd : D ≤ 16777215) :
    Calls Try.prog 100 #[.agg #[.int .i64 K, .int .i64 A, .int .i64 D]] w fun e w' => e = .returned (.string (bitsT (num K A D))) ∧ Below w.heap.size w w' := by
  have hn := num_lt hk ha hd
  have hs := plain_seal hn
  have hp := plain_text (K := K) ha hd
  have h1 := fun w d => aid.quiet_left (ofN K 4 (World.drewN w d) (by omega) (by omega))
  have h2 := fun w d => aid.quiet_left (ofN A 16 (World.drewN w d) (by omega) (by omega))
  have h3 := fun w d => aid.quiet_left (ofN D 24 (World.drewN w d) (by omega) (by omega))
  have h4 := fun w d => aid.quiet_left (pars.add4 (plainT (num K A D)) (World.drewN w d) (by rw [plain_size]; omega) (plain_ok _))
  rw [hs, ← hp] at h4
  have H1 := Lib.hid h1
  have H2 := Lib.hid h2
  have H3 := Lib.hid h3
  have z1 : ((⟨(enc 2 4 K).toArray⟩ : ByteArray).size : Int) ≤ 24 := by rw [e_size]; omega
  have z2 : ((⟨(enc 2 16 A).toArray⟩ : ByteArray).size : Int) ≤ 24 := by rw [e_size]; omega
  have z3 : ((⟨(enc 2 24 D).toArray⟩ : ByteArray).size : Int) ≤ 24 := by rw [e_size]; omega
  have H4 := Lib.hid h4
  clear h1 h2 h3 h4 hn hs hp hk ha hd
  generalize bitsT (num K A D) = T at *
  have H1' := Lib.hid (show ∀ w d, Calls Try.prog 117 #[.int .i64 (K : Int), .int .i64 4] (World.drewN w d) fun e w'' => e = .returned (.string ⟨(enc 2 4 K).toArray⟩) ∧ ∃ m, w'' = w.drewN m from H1.out)
  have H2' := Lib.hid (show ∀ w d, Calls Try.prog 117 #[.int .i64 (A : Int), .int .i64 16] (World.drewN w d) fun e w'' => e = .returned (.string ⟨(enc 2 16 A).toArray⟩) ∧ ∃ m, w'' = w.drewN m from H2.out)
  have H3' := Lib.hid (show ∀ w d, Calls Try.prog 117 #[.int .i64 (D : Int), .int .i64 24] (World.drewN w d) fun e w'' => e = .returned (.string ⟨(enc 2 24 D).toArray⟩) ∧ ∃ m, w'' = w.drewN m from H3.out)
  clear H1 H2 H3
  generalize (⟨(enc 2 4 K).toArray⟩ : ByteArray) = t1 at *
  generalize (⟨(enc 2 16 A).toArray⟩ : ByteArray) = t2 at *
  generalize (⟨(enc 2 24 D).toArray⟩ : ByteArray) = t3 at *
  go_enter Try.func100, Try.ntmps100
  go_wp2_with fail
  go_quiet (first
    | (go_at_call 117; first | (with_reducible exact H1'.out _ _) | (with_reducible exact H2'.out _ _) | (with_reducible exact H3'.out _ _))
    | (go_at_call 116; with_reducible exact H4.out _ _))
  go_wp2_with fail
  go_ret
  exact ⟨rfl, aid.below_drewN ((Below.refl _ _).alloc (Nat.le_refl _) _) _⟩

theorem hex_of {n : Nat} (h : n < 17592186044416) : (⟨(enc 16 ((bitsT n).size / 4) (dec 2 (bitsT n).data.toList)).toArray⟩ : ByteArray) = hexT n := by
  rw [bits_size, dec_bits h]
  rfl
theorem enc_no {K A D : Int} (h : good K A D = false) : Ending.returned (.tuple #[.string ⟨#[]⟩, .bool false]) = .returned (.tuple #[.string (encT K A D), .bool (good K A D)]) := by unfold encT; rw [h]; rfl
theorem enc_yes {K A D : Nat} (h : good K A D = true) : Ending.returned (.tuple #[.string (hexT (num K A D)), .bool true]) = .returned (.tuple #[.string (encT K A D), .bool (good K A D)]) := by unfold encT numI; rw [h]; simp
end Go.Proofs.Ytelkflgmjfmadaa.frms
