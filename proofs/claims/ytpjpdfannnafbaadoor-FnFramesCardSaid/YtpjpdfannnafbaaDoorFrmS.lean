/- spec's frames: one frame. -/
import Derived.Test.YtpjpdfannnafbaaDoorFrm
import Derived.Test.YtpjpdfannnafbaaDoorParR
import Derived.Test.YtpjpdfannnafbaaDoorHexS
import Derived.Test.YtpjpdfannnafbaaDoorIn
import Derived.BigQuiet
import Derived.Deep.QuietTactic
import Derived.Laws.ResultCell
namespace Go.Proofs.YtpjpdfannnafbaaDoor.frms
open Go.RowKit Go.Proofs.YtpjpdfannnafbaaDoor.bin Go.Proofs.YtpjpdfannnafbaaDoor.good_ Go.Proofs.YtpjpdfannnafbaaDoor.par Go.Proofs.YtpjpdfannnafbaaDoor.in_ Go.Proofs.YtpjpdfannnafbaaDoor.frm

theorem address5 (A : Int) (w : World) : Calls Tryd.prog 47 #[.int .i64 A] w fun e w' => e = .returned (.bool (isIn A 1 65535)) ∧ w = w' := by
  have HI := Lib.hid (fun w => l1In A 1 65535 w)
  generalize isIn A 1 65535 = b at *
  go_enter Tryd.func47, Tryd.ntmps47
  go_wp2_with fail
  refine (HI.out _).mono ?_
  rintro e w1 ⟨rfl, rfl⟩
  go_wp2_with fail
  go_ret
  exact ⟨rfl, rfl⟩
theorem good_parts (K A D : Int) : good K A D = (isIn K 1 4 && (isIn A 1 65535 && isIn D 0 16777215)) := by
  unfold good isIn
  rw [Bool.eq_iff_iff]
  simp only [Bool.and_eq_true, decide_eq_true_eq]
  omega
theorem good5 (K A D : Int) (w : World) : Calls Tryd.prog 27 #[.agg #[.int .i64 K, .int .i64 A, .int .i64 D]] w fun e w' => e = .returned (.bool (good K A D)) ∧ Below w.heap.size w w' := by
  rw [good_parts]
  have H1 := Lib.hid (fun w => l1In K 1 4 w)
  have H2 := Lib.hid (fun w => address5 A w)
  have H3 := Lib.hid (fun w => l1In D 0 16777215 w)
  generalize isIn K 1 4 = b1 at *
  generalize isIn A 1 65535 = b2 at *
  generalize isIn D 0 16777215 = b3 at *
  cases b1
  · go_enter Tryd.func27, Tryd.ntmps27
    go_wp2_with fail
    refine (H1.out _).mono ?_
    rintro e w1 ⟨rfl, rfl⟩
    go_wp2_with fail
    go_ret
    exact ⟨rfl, (Below.refl _ _).alloc (Nat.le_refl _) _⟩
  · cases b2
    · go_enter Tryd.func27, Tryd.ntmps27
      go_wp2_with fail
      refine (H1.out _).mono ?_
      rintro e w1 ⟨rfl, rfl⟩
      go_wp2_with fail
      refine (H2.out _).mono ?_
      rintro e w1 ⟨rfl, rfl⟩
      go_wp2_with fail
      go_ret
      exact ⟨rfl, (Below.refl _ _).alloc (Nat.le_refl _) _⟩
    · go_enter Tryd.func27, Tryd.ntmps27
      go_wp2_with fail
      refine (H1.out _).mono ?_
      rintro e w1 ⟨rfl, rfl⟩
      go_wp2_with fail
      refine (H2.out _).mono ?_
      rintro e w1 ⟨rfl, rfl⟩
      go_wp2_with fail
      refine (H3.out _).mono ?_
      rintro e w1 ⟨rfl, rfl⟩
      go_wp2_with fail
      go_ret
      exact ⟨by simp, (Below.refl _ _).alloc (Nat.le_refl _) _⟩
theorem plain_text {K A D : Nat} (ha : A ≤ 65535) (hd : D ≤ 16777215) : (⟨(enc 2 4 K).toArray⟩ : ByteArray) ++ ⟨(enc 2 16 A).toArray⟩ ++ ⟨(enc 2 24 D).toArray⟩ = plainT (num K A D) := by
  apply aid.str_ext
  rw [aid.str_app, aid.str_app]
  exact plain_parts ha hd
theorem l5Bits (K A D : Nat) (w : World) (hk : K ≤ 4) (ha : A ≤ 65535) (hd : D ≤ 16777215) :
    Calls Tryd.prog 49 #[.agg #[.int .i64 K, .int .i64 A, .int .i64 D]] w fun e w' => e = .returned (.string (bitsT (num K A D))) ∧ Below w.heap.size w w' := by
  have hn := num_lt hk ha hd
  have hs := plain_seal hn
  have hp := plain_text (K := K) ha hd
  have h1 := fun w d => aid.quiet_left (ofN K 4 (World.drewN w d) (by omega) (by omega))
  have h2 := fun w d => aid.quiet_left (ofN A 16 (World.drewN w d) (by omega) (by omega))
  have h3 := fun w d => aid.quiet_left (ofN D 24 (World.drewN w d) (by omega) (by omega))
  have h4 := fun w d => aid.quiet_left (pars.add4 (plainT (num K A D)) (World.drewN w d) (by rw [plain_size]; omega) (plain_ok _))
  rw [hs, ← hp] at h4
  have H1 := Lib.hid h1
  have H2 := Lib.hid h2
  have H3 := Lib.hid h3
  have z1 : ((⟨(enc 2 4 K).toArray⟩ : ByteArray).size : Int) ≤ 24 := by rw [e_size]; omega
  have z2 : ((⟨(enc 2 16 A).toArray⟩ : ByteArray).size : Int) ≤ 24 := by rw [e_size]; omega
  have z3 : ((⟨(enc 2 24 D).toArray⟩ : ByteArray).size : Int) ≤ 24 := by rw [e_size]; omega
  have H4 := Lib.hid h4
  clear h1 h2 h3 h4 hn hs hp hk ha hd
  generalize bitsT (num K A D) = T at *
  have H1' := Lib.hid (show ∀ w d, Calls Tryd.prog 62 #[.int .i64 (K : Int), .int .i64 4] (World.drewN w d) fun e w'' => e = .returned (.string ⟨(enc 2 4 K).toArray⟩) ∧ ∃ m, w'' = w.drewN m from H1.out)
  have H2' := Lib.hid (show ∀ w d, Calls Tryd.prog 62 #[.int .i64 (A : Int), .int .i64 16] (World.drewN w d) fun e w'' => e = .returned (.string ⟨(enc 2 16 A).toArray⟩) ∧ ∃ m, w'' = w.drewN m from H2.out)
  have H3' := Lib.hid (show ∀ w d, Calls Tryd.prog 62 #[.int .i64 (D : Int), .int .i64 24] (World.drewN w d) fun e w'' => e = .returned (.string ⟨(enc 2 24 D).toArray⟩) ∧ ∃ m, w'' = w.drewN m from H3.out)
  clear H1 H2 H3
  generalize (⟨(enc 2 4 K).toArray⟩ : ByteArray) = t1 at *
  generalize (⟨(enc 2 16 A).toArray⟩ : ByteArray) = t2 at *
  generalize (⟨(enc 2 24 D).toArray⟩ : ByteArray) = t3 at *
  go_enter Tryd.func49, Tryd.ntmps49
  go_wp2_with fail
  go_quiet (first
    | (go_at_call 62; first | (with_reducible exact H1'.out _ _) | (with_reducible exact H2'.out _ _) | (with_reducible exact H3'.out _ _))
    | (go_at_call 61; with_reducible exact H4.out _ _))
  go_wp2_with fail
  go_ret
  exact ⟨rfl, aid.below_drewN ((Below.refl _ _).alloc (Nat.le_refl _) _) _⟩

theorem hex_of {n : Nat} (h : n < 17592186044416) : (⟨(enc 16 ((bitsT n).size / 4) (dec 2 (bitsT n).data.toList)).toArray⟩ : ByteArray) = hexT n := by
  rw [bits_size, dec_bits h]
  rfl
theorem l5Hex (K A D : Nat) (w : World) (hk : K ≤ 4) (ha : A ≤ 65535) (hd : D ≤ 16777215) :
    Calls Tryd.prog 28 #[.agg #[.int .i64 K, .int .i64 A, .int .i64 D]] w fun e w' => e = .returned (.string (hexT (num K A D))) ∧ Below w.heap.size w w' := by
  have hn := num_lt hk ha hd
  have HB := Lib.hid (fun w => l5Bits K A D w hk ha hd)
  have hh := fun w => hexs.l2Hex (bitsT (num K A D)) w (by rw [bits_size]; omega) (by rw [bits_size]) (bits_ok _)
  rw [hex_of hn] at hh
  have HH := Lib.hid hh
  clear hh hn hk ha hd
  generalize bitsT (num K A D) = T at *
  generalize hexT (num K A D) = X at *
  go_enter Tryd.func28, Tryd.ntmps28
  go_wp2_with fail
  refine (HB.out _).mono ?_
  rintro e w1 ⟨rfl, hb⟩
  have hb := ((Below.refl _ _).alloc (Nat.le_refl _) _).trans (hb.mono (by simp))
  go_wp2_with fail
  refine (HH.out _).mono ?_
  rintro e w2 ⟨rfl, rfl⟩
  go_wp2_with fail
  go_ret
  exact ⟨rfl, hb⟩

theorem enc_no {K A D : Int} (h : good K A D = false) : Ending.returned (.tuple #[.string ⟨#[]⟩, .bool false]) = .returned (.tuple #[.string (encT K A D), .bool (good K A D)]) := by unfold encT; rw [h]; rfl
theorem enc_yes {K A D : Nat} (h : good K A D = true) : Ending.returned (.tuple #[.string (hexT (num K A D)), .bool true]) = .returned (.tuple #[.string (encT K A D), .bool (good K A D)]) := by unfold encT numI; rw [h]; simp
theorem encode (K A D : Int) (w : World) :
    Calls Tryd.prog 9 #[.agg #[.int .i64 K, .int .i64 A, .int .i64 D]] w fun e w' => e = .returned (.tuple #[.string (encT K A D), .bool (good K A D)]) ∧ Below w.heap.size w w' := by
  have hg := fun w => good5 K A D w
  cases hb : good K A D
  · have HN := Lib.hid (enc_no hb)
    rw [hb] at hg HN
    have HG := Lib.hid hg
    clear hg hb
    go_enter Tryd.func9, Tryd.ntmps9
    go_wp2_with fail
    refine (HG.out _).mono ?_
    rintro e w1 ⟨rfl, hb⟩
    have hb := ((Below.refl _ _).alloc (Nat.le_refl _) _).trans (hb.mono (by simp))
    go_wp2_with fail
    go_ret2
    exact ⟨HN.out, hb⟩
  · obtain ⟨k, a, d, rfl, rfl, rfl, h1, h2, h3, h4, h5⟩ := good_nat hb
    have HY := Lib.hid (enc_yes hb)
    have HX := Lib.hid (fun w => l5Hex k a d w h2 h4 h5)
    rw [hb] at hg HY
    have HG := Lib.hid hg
    clear hg hb h1 h2 h3 h4 h5
    generalize hexT (num k a d) = X at *
    go_enter Tryd.func9, Tryd.ntmps9
    go_wp2_with fail
    refine (HG.out _).mono ?_
    rintro e w1 ⟨rfl, hb⟩
    have hc : ∀ o, w1.cell? ⟨w.heap.size, o, none⟩ = (w.alloc (.cells #[.int .i64 k, .int .i64 a, .int .i64 d] 25)).cell? ⟨w.heap.size, o, none⟩ := fun o => hb.cell (p := ⟨w.heap.size, o, none⟩) (by simp)
    have hb := ((Below.refl _ _).alloc (Nat.le_refl _) _).trans (hb.mono (by simp))
    go_wp2_with fail
    refine (HX.out _).mono ?_
    rintro e w2 ⟨rfl, hb2⟩
    have hb := hb.trans (hb2.mono hb.size)
    go_wp2_with fail
    go_ret2
    exact ⟨HY.out, hb⟩
end Go.Proofs.YtpjpdfannnafbaaDoor.frms
