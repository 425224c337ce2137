/- impl's bitsOfFrame, EncodeFrame, FrameDistance. -/
import Derived.Test.YtpjpdfannnafbaaFrmI
import Derived.Test.YtpjpdfannnafbaaFrmV
import Derived.Test.YtpjpdfannnafbaaAt3
import Derived.Test.YtpjpdfannnafbaaParI
import Derived.Test.YtpjpdfannnafbaaBitsI
namespace Go.Proofs.Ytpjpdfannnafbaa.frmj
open Go.RowKit Go.Proofs.Ytpjpdfannnafbaa.bin Go.Proofs.Ytpjpdfannnafbaa.good_ Go.Proofs.Ytpjpdfannnafbaa.par Go.Proofs.Ytpjpdfannnafbaa.frm Go.Proofs.Ytpjpdfannnafbaa.frms Go.Proofs.Ytpjpdfannnafbaa.ats Go.Proofs.Ytpjpdfannnafbaa.frmv

/-- The bits of a frame, or the empty string. -/
def btT (K A D : Int) : ByteArray := if good K A D then bitsT (numI K A D) else ⟨#[]⟩
theorem bt_no {K A D : Int} (h : good K A D = false) : Ending.returned (.tuple #[.string ⟨#[]⟩, .bool false]) = .returned (.tuple #[.string (btT K A D), .bool (good K A D)]) := by unfold btT; rw [h]; rfl
theorem bt_yes {K A D : Nat} (h : good K A D = true) : Ending.returned (.tuple #[.string (bitsT (num K A D)), .bool true]) = .returned (.tuple #[.string (btT K A D), .bool (good K A D)]) := by unfold btT numI; rw [h]; simp
theorem bof {n m : Nat} (hm : m ≤ 30) (hn : n < 2 ^ m) : bitsi.bofB n m = true ∧ bitsi.bofT n m = ⟨(enc 2 m n).toArray⟩ := by
  have h : bitsi.bofB n m = true := by
    unfold bitsi.bofB
    exact decide_eq_true ⟨by omega, by omega, by omega, by simpa using hn⟩
  refine ⟨h, ?_⟩
  unfold bitsi.bofT
  rw [h]
  simp
theorem bitsN (n m : Nat) (hm : m ≤ 30) (hn : n < 2 ^ m) (hx : n ≤ 16777215) (w : World) : Calls Try.prog 67 #[.int .i64 n, .int .i64 m] w
    fun e w' => e = .returned (.tuple #[.string ⟨(enc 2 m n).toArray⟩, .bool true]) ∧ Below w.heap.size w w' := by
  have h := bitsi.bitsOf n m w (by omega)
  rw [(bof hm hn).1, (bof hm hn).2] at h
  exact h
theorem addN {n : Nat} (h : n < 17592186044416) (w : World) : Calls Try.prog 68 #[.string (plainT n)] w
    fun e w' => e = .returned (.tuple #[.string (bitsT n), .bool true]) ∧ Below w.heap.size w w' := by
  have h1 := pari.addParity (plainT n) w
  have hr : rdB 2 52 (plainT n) = true := by unfold rdB; rw [plain_ok, plain_size]; rfl
  have ht : addT (plainT n) = bitsT n := by unfold addT; rw [hr, if_pos rfl]; exact plain_seal h
  rw [hr, ht] at h1
  exact h1

set_option maxRecDepth 100000 in
theorem bitsOfFrame (K A D : Int) (w : World) :
    Calls Try.prog 40 #[.agg #[.int .i64 K, .int .i64 A, .int .i64 D]] w fun e w' => e = .returned (.tuple #[.string (btT K A D), .bool (good K A D)]) ∧ Below w.heap.size w w' := by
  have hg := fun w => frmi.isValid K A D w
  have B0 := Lib.hid (newS 25 #[.int .i64 K, .int .i64 A, .int .i64 D] w)
  cases hb : good K A D
  · have HN := Lib.hid (bt_no hb)
    rw [hb] at hg HN
    have HG := Lib.hid hg
    clear hg hb
    go_enter Try.func40, Try.ntmps40
    go_wp2_with fail
    refine (HG.out _).mono ?_
    rintro e w1 ⟨rfl, hb1⟩
    have B1 := Lib.hid (B0.out.old hb1)
    go_wp2_with fail
    go_ret2
    exact ⟨HN.out, B1.out.1⟩
  · obtain ⟨k, a, d, rfl, rfl, rfl, h1, h2, h3, h4, h5⟩ := good_nat hb
    have HY := Lib.hid (bt_yes hb)
    have hn := num_lt h2 h4 h5
    have hp := plain_text (K := k) h4 h5
    have H1 := Lib.hid (fun w => bitsN k 4 (by omega) (by omega) (by omega) w)
    have H2 := Lib.hid (fun w => bitsN a 16 (by omega) (by omega) (by omega) w)
    have H3 := Lib.hid (fun w => bitsN d 24 (by omega) (by omega) (by omega) w)
    have h4' := fun w => addN hn w
    rw [← hp] at h4'
    have H4 := Lib.hid h4'
    have z1 : ((⟨(enc 2 4 k).toArray⟩ : ByteArray).size : Int) ≤ 24 := by rw [e_size]; omega
    have z2 : ((⟨(enc 2 16 a).toArray⟩ : ByteArray).size : Int) ≤ 24 := by rw [e_size]; omega
    have z3 : ((⟨(enc 2 24 d).toArray⟩ : ByteArray).size : Int) ≤ 24 := by rw [e_size]; omega
    rw [hb] at hg HY
    have HG := Lib.hid hg
    clear hg hb h4' hp hn h1 h2 h3 h4 h5
    generalize bitsT (num k a d) = T at *
    generalize (⟨(enc 2 4 k).toArray⟩ : ByteArray) = t1 at *
    generalize (⟨(enc 2 16 a).toArray⟩ : ByteArray) = t2 at *
    generalize (⟨(enc 2 24 d).toArray⟩ : ByteArray) = t3 at *
    go_enter Try.func40, Try.ntmps40
    go_wp2_with fail
    refine (HG.out _).mono ?_
    rintro e w1 ⟨rfl, hb1⟩
    have B1 := Lib.hid (B0.out.old hb1)
    have c0 : w1.cell? ⟨w.heap.size, 0, none⟩ = some (.int .i64 k) := B1.out.cell 0
    clear hb1
    go_wp2_with fail
    refine (H1.out _).mono ?_
    rintro e w2 ⟨rfl, hb2⟩
    have B2 := Lib.hid (B1.out.old hb2)
    have c1 : w2.cell? ⟨w.heap.size, 1, none⟩ = some (.int .i64 a) := B2.out.cell 1
    clear hb2 c0
    go_wp2_with fail
    refine (H2.out _).mono ?_
    rintro e w3 ⟨rfl, hb3⟩
    have B3 := Lib.hid (B2.out.old hb3)
    have c2 : w3.cell? ⟨w.heap.size, 2, none⟩ = some (.int .i64 d) := B3.out.cell 2
    clear hb3 c1
    go_wp2_with fail
    refine (H3.out _).mono ?_
    rintro e w4 ⟨rfl, hb4⟩
    have B4 := Lib.hid (B3.out.old hb4)
    clear hb4 c2
    go_wp2_with fail
    refine (H4.out _).mono ?_
    rintro e w5 ⟨rfl, hb5⟩
    have B5 := Lib.hid (B4.out.old hb5)
    clear hb5
    go_wp2_with fail
    go_ret2
    exact ⟨HY.out, B5.out.1⟩

theorem en_no {K A D : Int} (h : good K A D = false) : Ending.returned (.tuple #[.string ⟨#[]⟩, .bool false]) = .returned (.tuple #[.string (encT K A D), .bool (good K A D)]) := by unfold encT; rw [h]; rfl
theorem en_yes {K A D : Nat} (h : good K A D = true) : Ending.returned (.tuple #[.string (hexT (num K A D)), .bool true]) = .returned (.tuple #[.string (encT K A D), .bool (good K A D)]) := by unfold encT numI; rw [h]; simp
theorem hexN {n : Nat} (h : n < 17592186044416) (w : World) : Calls Try.prog 57 #[.string (bitsT n)] w
    fun e w' => e = .returned (.tuple #[.string (hexT n), .bool true]) ∧ Below w.heap.size w w' := by
  have h1 := bitsi.hexOf (bitsT n) w
  have hr : bitsi.hexB (bitsT n) = true := by unfold bitsi.hexB rdB; rw [bits_ok, bits_size]; rfl
  have ht : bitsi.hexT (bitsT n) = hexT n := by unfold bitsi.hexT; rw [hr, if_pos rfl]; exact hex_of h
  rw [hr, ht] at h1
  exact h1
theorem encodeFrame (K A D : Int) (w : World) :
    Calls Try.prog 26 #[.agg #[.int .i64 K, .int .i64 A, .int .i64 D]] w fun e w' => e = .returned (.tuple #[.string (encT K A D), .bool (good K A D)]) ∧ Below w.heap.size w w' := by
  have hg := fun w => bitsOfFrame K A D w
  have B0 := Lib.hid (newS 25 #[.int .i64 K, .int .i64 A, .int .i64 D] w)
  cases hb : good K A D
  · have HN := Lib.hid (en_no hb)
    rw [hb] at hg HN
    have HG := Lib.hid hg
    clear hg hb
    generalize btT K A D = T at *
    go_enter Try.func26, Try.ntmps26
    go_wp2_with fail
    refine (HG.out _).mono ?_
    rintro e w1 ⟨rfl, hb1⟩
    have B1 := Lib.hid (B0.out.old hb1)
    go_wp2_with fail
    go_ret2
    exact ⟨HN.out, B1.out.1⟩
  · obtain ⟨k, a, d, rfl, rfl, rfl, h1, h2, h3, h4, h5⟩ := good_nat hb
    have HY := Lib.hid (en_yes hb)
    have HX := Lib.hid (fun w => hexN (num_lt h2 h4 h5) w)
    have ht : btT k a d = bitsT (num k a d) := by unfold btT numI; rw [hb]; simp
    rw [hb, ht] at hg
    rw [hb] at HY
    have HG := Lib.hid hg
    clear hg hb ht h1 h2 h3 h4 h5
    generalize bitsT (num k a d) = T at *
    generalize hexT (num k a d) = X at *
    go_enter Try.func26, Try.ntmps26
    go_wp2_with fail
    refine (HG.out _).mono ?_
    rintro e w1 ⟨rfl, hb1⟩
    have B1 := Lib.hid (B0.out.old hb1)
    clear hb1
    go_wp2_with fail
    refine (HX.out _).mono ?_
    rintro e w2 ⟨rfl, hb2⟩
    have B2 := Lib.hid (B1.out.old hb2)
    clear hb2
    go_wp2_with fail
    go_ret2
    exact ⟨HY.out, B2.out.1⟩

theorem mk_list (l : List UInt8) : (⟨l.toArray⟩ : ByteArray).data.toList = l := rfl
theorem xor_ones {n m : Nat} : ∃ Z : ByteArray, dist n m = ones Z.data.toList ∧ rdB 2 64 Z = true ∧ bitsi.onesV Z = ones Z.data.toList ∧
    ∀ w, Calls Try.prog 41 #[.string (bitsT n), .string (bitsT m)] w fun e w' => e = .returned (.tuple #[.string Z, .bool true]) ∧ Below w.heap.size w w' := by
  have ha : rdB 2 64 (bitsT n) = true := by unfold rdB; rw [bits_ok, bits_size]; rfl
  have hb : rdB 2 64 (bitsT m) = true := by unfold rdB; rw [bits_ok, bits_size]; rfl
  have hs : (bitsT n).size = (bitsT m).size := (bits_size _).trans (bits_size _).symm
  have hx : bitsi.xorB (bitsT n) (bitsT m) = true := by unfold bitsi.xorB; rw [ha, hb, decide_eq_true hs]; rfl
  have ht : bitsi.xorT (bitsT n) (bitsT m) = ⟨(List.zipWith df (bitsT n).data.toList (bitsT m).data.toList).toArray⟩ := by unfold bitsi.xorT; rw [hx, if_pos rfl]
  have hr : rdB 2 64 (bitsi.xorT (bitsT n) (bitsT m)) = true := by
    have hl := bitsi.xor_text ha hb hs
    unfold rdB
    rw [ht]
    have h1 : (⟨(List.zipWith df (bitsT n).data.toList (bitsT m).data.toList).toArray⟩ : ByteArray).data.toList = enc 2 (bitsT n).size (dec 2 (bitsT n).data.toList ^^^ dec 2 (bitsT m).data.toList) := (mk_list _).trans hl.symm
    have h2 : (⟨(List.zipWith df (bitsT n).data.toList (bitsT m).data.toList).toArray⟩ : ByteArray).size ≤ 64 := by
      rw [← bitsi.len_list, h1, enc_length, bits_size]; omega
    rw [h1, ok_enc 2 (by omega) (by omega), decide_eq_true h2]
    rfl
  refine ⟨bitsi.xorT (bitsT n) (bitsT m), by rw [ht, mk_list]; rfl, hr, by unfold bitsi.onesV; rw [hr, if_pos rfl], fun w => ?_⟩
  have h := bitsi.xorBits (bitsT n) (bitsT m) w
  rw [hx] at h
  exact h

set_option maxHeartbeats 2000000 in
theorem distance (K A D K' A' D' : Int) (w : World) :
    Calls Try.prog 13 #[.agg #[.int .i64 K, .int .i64 A, .int .i64 D], .agg #[.int .i64 K', .int .i64 A', .int .i64 D']] w
      fun e w' => e = .returned (.tuple #[.int .i64 (fdV K A D K' A' D' : Nat), .bool (fdB K A D K' A' D')]) ∧ Below w.heap.size w w' := by
  have hg := fun w => bitsOfFrame K A D w
  have hg' := fun w => bitsOfFrame K' A' D' w
  have B0 := Lib.hid (newS 25 #[.int .i64 K, .int .i64 A, .int .i64 D] w)
  have C0 := Lib.hid (B0.out.next 25 #[.int .i64 K', .int .i64 A', .int .i64 D'])
  have D0 := Lib.hid (B0.out.alloc (.cells #[.int .i64 K', .int .i64 A', .int .i64 D'] 25))
  rw [World.size_alloc] at C0
  cases hf : fdB K A D K' A' D'
  · have HN := Lib.hid (fd_no hf)
    rw [hf] at HN
    have ho : good K A D = false ∨ good K' A' D' = false := by
      unfold fdB at hf
      cases h1 : good K A D
      · exact .inl rfl
      · rw [h1] at hf; exact .inr hf
    have HG := Lib.hid hg
    have HG' := Lib.hid hg'
    clear hg hg' hf
    generalize btT K A D = T at *
    generalize btT K' A' D' = T' at *
    generalize good K A D = g at *
    generalize good K' A' D' = g' at *
    rcases ho with rfl | rfl
    · go_enter Try.func13, Try.ntmps13
      go_wp2_with fail
      generalize (w.alloc (.cells #[.int .i64 K, .int .i64 A, .int .i64 D] 25)).alloc (.cells #[.int .i64 K', .int .i64 A', .int .i64 D'] 25) = W at *
      have b0 : W.cell? ⟨w.heap.size, 0, none⟩ = some (.int .i64 K) := D0.out.cell 0
      have b1 : W.cell? ⟨w.heap.size, 1, none⟩ = some (.int .i64 A) := D0.out.cell 1
      have b2 : W.cell? ⟨w.heap.size, 2, none⟩ = some (.int .i64 D) := D0.out.cell 2
      refine (HG.out _).mono ?_
      rintro e w1 ⟨rfl, hb1⟩
      have C1 := Lib.hid (C0.out.old hb1)
      have c0 : w1.cell? ⟨w.heap.size + 1, 0, none⟩ = some (.int .i64 K') := C1.out.cell 0
      have c1 : w1.cell? ⟨w.heap.size + 1, 1, none⟩ = some (.int .i64 A') := C1.out.cell 1
      have c2 : w1.cell? ⟨w.heap.size + 1, 2, none⟩ = some (.int .i64 D') := C1.out.cell 2
      clear hb1 b0 b1 b2
      go_wp2_with fail
      refine (HG'.out _).mono ?_
      rintro e w2 ⟨rfl, hb2⟩
      have C2 := Lib.hid (C1.out.old hb2)
      clear hb2 c0 c1 c2
      go_wp2_with fail
      go_ret2
      exact ⟨HN.out, C2.out.1⟩
    · cases g
      all_goals
        go_enter Try.func13, Try.ntmps13
        go_wp2_with fail
        generalize (w.alloc (.cells #[.int .i64 K, .int .i64 A, .int .i64 D] 25)).alloc (.cells #[.int .i64 K', .int .i64 A', .int .i64 D'] 25) = W at *
        refine (HG.out _).mono ?_
        rintro e w1 ⟨rfl, hb1⟩
        have C1 := Lib.hid (C0.out.old hb1)
        have c0 : w1.cell? ⟨w.heap.size + 1, 0, none⟩ = some (.int .i64 K') := C1.out.cell 0
        have c1 : w1.cell? ⟨w.heap.size + 1, 1, none⟩ = some (.int .i64 A') := C1.out.cell 1
        have c2 : w1.cell? ⟨w.heap.size + 1, 2, none⟩ = some (.int .i64 D') := C1.out.cell 2
        clear hb1
        go_wp2_with fail
        refine (HG'.out _).mono ?_
        rintro e w2 ⟨rfl, hb2⟩
        have C2 := Lib.hid (C1.out.old hb2)
        clear hb2 c0 c1 c2
        go_wp2_with fail
        go_ret2
        exact ⟨HN.out, C2.out.1⟩
  · have hb : good K A D = true := by unfold fdB at hf; exact (Bool.and_eq_true _ _ ▸ hf).1
    have hb' : good K' A' D' = true := by unfold fdB at hf; exact (Bool.and_eq_true _ _ ▸ hf).2
    obtain ⟨k, a, d, rfl, rfl, rfl, h1, h2, h3, h4, h5⟩ := good_nat hb
    obtain ⟨k', a', d', rfl, rfl, rfl, i1, i2, i3, i4, i5⟩ := good_nat hb'
    have HY := Lib.hid (fd_yes hf)
    obtain ⟨Z, hdz, hzr, hzo, hzx⟩ := xor_ones (n := num k a d) (m := num k' a' d')
    have hc := fun w => bitsi.countOnes Z w
    rw [hzr, hzo] at hc
    have HX := Lib.hid hzx
    have HC := Lib.hid hc
    have ht : btT k a d = bitsT (num k a d) := by unfold btT numI; rw [hb]; simp
    have ht' : btT k' a' d' = bitsT (num k' a' d') := by unfold btT numI; rw [hb']; simp
    rw [hb, ht] at hg
    rw [hb', ht'] at hg'
    rw [hf, hdz] at HY
    have HG := Lib.hid hg
    have HG' := Lib.hid hg'
    clear hg hg' hf hb hb' ht ht' h1 h2 h3 h4 h5 i1 i2 i3 i4 i5 hdz hzr hzo hc hzx
    generalize bitsT (num k a d) = T at *
    generalize bitsT (num k' a' d') = T' at *
    generalize ones Z.data.toList = o at *
    go_enter Try.func13, Try.ntmps13
    go_wp2_with fail
    generalize (w.alloc (.cells #[.int .i64 k, .int .i64 a, .int .i64 d] 25)).alloc (.cells #[.int .i64 k', .int .i64 a', .int .i64 d'] 25) = W at *
    refine (HG.out _).mono ?_
    rintro e w1 ⟨rfl, hb1⟩
    have C1 := Lib.hid (C0.out.old hb1)
    have c0 : w1.cell? ⟨w.heap.size + 1, 0, none⟩ = some (.int .i64 k') := C1.out.cell 0
    have c1 : w1.cell? ⟨w.heap.size + 1, 1, none⟩ = some (.int .i64 a') := C1.out.cell 1
    have c2 : w1.cell? ⟨w.heap.size + 1, 2, none⟩ = some (.int .i64 d') := C1.out.cell 2
    clear hb1
    go_wp2_with fail
    refine (HG'.out _).mono ?_
    rintro e w2 ⟨rfl, hb2⟩
    have C2 := Lib.hid (C1.out.old hb2)
    clear hb2 c0 c1 c2
    go_wp2_with fail
    refine (HX.out _).mono ?_
    rintro e w3 ⟨rfl, hb3⟩
    have C3 := Lib.hid (C2.out.old hb3)
    clear hb3
    go_wp2_with fail
    refine (HC.out _).mono ?_
    rintro e w4 ⟨rfl, rfl⟩
    go_wp2_with fail
    go_ret2
    exact ⟨HY.out, C3.out.1⟩
end Go.Proofs.Ytpjpdfannnafbaa.frmj
