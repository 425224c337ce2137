/- impl's bitsOfFrame, EncodeFrame, FrameDistance. -/
import Derived.Test.YtpjpdfannnafbaaDoorFrmI
import Derived.Test.YtpjpdfannnafbaaDoorFrmV
import Derived.Test.YtpjpdfannnafbaaDoorAt3
import Derived.Test.YtpjpdfannnafbaaDoorParI
import Derived.Test.YtpjpdfannnafbaaDoorBitsI
namespace Go.Proofs.YtpjpdfannnafbaaDoor.frmj
open Go.RowKit Go.Proofs.YtpjpdfannnafbaaDoor.bin Go.Proofs.YtpjpdfannnafbaaDoor.good_ Go.Proofs.YtpjpdfannnafbaaDoor.par Go.Proofs.YtpjpdfannnafbaaDoor.frm Go.Proofs.YtpjpdfannnafbaaDoor.frms Go.Proofs.YtpjpdfannnafbaaDoor.ats Go.Proofs.YtpjpdfannnafbaaDoor.frmv

/-- The bits of a frame, or the empty string. -/
def btT (K A D : Int) : ByteArray := if good K A D then bitsT (numI K A D) else ⟨#[]⟩
theorem bt_no {K A D : Int} (h : good K A D = false) : Ending.returned (.tuple #[.string ⟨#[]⟩, .bool false]) = .returned (.tuple #[.string (btT K A D), .bool (good K A D)]) := by unfold btT; rw [h]; rfl
theorem bt_yes {K A D : Nat} (h : good K A D = true) : Ending.returned (.tuple #[.string (bitsT (num K A D)), .bool true]) = .returned (.tuple #[.string (btT K A D), .bool (good K A D)]) := by unfold btT numI; rw [h]; simp
theorem bof {n m : Nat} (hm : m ≤ 30) (hn : n < 2 ^ m) : bitsi.bofB n m = true ∧ bitsi.bofT n m = ⟨(enc 2 m n).toArray⟩ := by
  have h : bitsi.bofB n m = true := by
    unfold bitsi.bofB
    exact decide_eq_true ⟨by omega, by omega, by omega, by simpa using hn⟩
  refine ⟨h, ?_⟩
  unfold bitsi.bofT
  rw [h]
  simp
theorem bitsN (n m : Nat) (hm : m ≤ 30) (hn : n < 2 ^ m) (hx : n ≤ 16777215) (w : World) : Calls Tryd.prog 44 #[.int .i64 n, .int .i64 m] w
    fun e w' => e = .returned (.tuple #[.string ⟨(enc 2 m n).toArray⟩, .bool true]) ∧ Below w.heap.size w w' := by
  have h := bitsi.bitsOf n m w (by omega)
  rw [(bof hm hn).1, (bof hm hn).2] at h
  exact h
theorem addN {n : Nat} (h : n < 17592186044416) (w : World) : Calls Tryd.prog 45 #[.string (plainT n)] w
    fun e w' => e = .returned (.tuple #[.string (bitsT n), .bool true]) ∧ Below w.heap.size w w' := by
  have h1 := pari.addParity (plainT n) w
  have hr : rdB 2 52 (plainT n) = true := by unfold rdB; rw [plain_ok, plain_size]; rfl
  have ht : addT (plainT n) = bitsT n := by unfold addT; rw [hr, if_pos rfl]; exact plain_seal h
  rw [hr, ht] at h1
  exact h1

set_option maxRecDepth 100000 in
theorem bitsOfFrame (K A D : Int) (w : World) :
    Calls Tryd.prog 26 #[.agg #[.int .i64 K, .int .i64 A, .int .i64 D]] w fun e w' => e = .returned (.tuple #[.string (btT K A D), .bool (good K A D)]) ∧ Below w.heap.size w w' := by
  have hg := fun w => frmi.isValid K A D w
  have B0 := Lib.hid (newS 25 #[.int .i64 K, .int .i64 A, .int .i64 D] w)
  cases hb : good K A D
  · have HN := Lib.hid (bt_no hb)
    rw [hb] at hg HN
    have HG := Lib.hid hg
    clear hg hb
    go_enter Tryd.func26, Tryd.ntmps26
    go_wp2_with fail
    refine (HG.out _).mono ?_
    rintro e w1 ⟨rfl, hb1⟩
    have B1 := Lib.hid (B0.out.old hb1)
    go_wp2_with fail
    go_ret2
    exact ⟨HN.out, B1.out.1⟩
  · obtain ⟨k, a, d, rfl, rfl, rfl, h1, h2, h3, h4, h5⟩ := good_nat hb
    have HY := Lib.hid (bt_yes hb)
    have hn := num_lt h2 h4 h5
    have hp := plain_text (K := k) h4 h5
    have H1 := Lib.hid (fun w => bitsN k 4 (by omega) (by omega) (by omega) w)
    have H2 := Lib.hid (fun w => bitsN a 16 (by omega) (by omega) (by omega) w)
    have H3 := Lib.hid (fun w => bitsN d 24 (by omega) (by omega) (by omega) w)
    have h4' := fun w => addN hn w
    rw [← hp] at h4'
    have H4 := Lib.hid h4'
    have z1 : ((⟨(enc 2 4 k).toArray⟩ : ByteArray).size : Int) ≤ 24 := by rw [e_size]; omega
    have z2 : ((⟨(enc 2 16 a).toArray⟩ : ByteArray).size : Int) ≤ 24 := by rw [e_size]; omega
    have z3 : ((⟨(enc 2 24 d).toArray⟩ : ByteArray).size : Int) ≤ 24 := by rw [e_size]; omega
    rw [hb] at hg HY
    have HG := Lib.hid hg
    clear hg hb h4' hp hn h1 h2 h3 h4 h5
    generalize bitsT (num k a d) = T at *
    generalize (⟨(enc 2 4 k).toArray⟩ : ByteArray) = t1 at *
    generalize (⟨(enc 2 16 a).toArray⟩ : ByteArray) = t2 at *
    generalize (⟨(enc 2 24 d).toArray⟩ : ByteArray) = t3 at *
    go_enter Tryd.func26, Tryd.ntmps26
    go_wp2_with fail
    refine (HG.out _).mono ?_
    rintro e w1 ⟨rfl, hb1⟩
    have B1 := Lib.hid (B0.out.old hb1)
    have c0 : w1.cell? ⟨w.heap.size, 0, none⟩ = some (.int .i64 k) := B1.out.cell 0
    clear hb1
    go_wp2_with fail
    refine (H1.out _).mono ?_
    rintro e w2 ⟨rfl, hb2⟩
    have B2 := Lib.hid (B1.out.old hb2)
    have c1 : w2.cell? ⟨w.heap.size, 1, none⟩ = some (.int .i64 a) := B2.out.cell 1
    clear hb2 c0
    go_wp2_with fail
    refine (H2.out _).mono ?_
    rintro e w3 ⟨rfl, hb3⟩
    have B3 := Lib.hid (B2.out.old hb3)
    have c2 : w3.cell? ⟨w.heap.size, 2, none⟩ = some (.int .i64 d) := B3.out.cell 2
    clear hb3 c1
    go_wp2_with fail
    refine (H3.out _).mono ?_
    rintro e w4 ⟨rfl, hb4⟩
    have B4 := Lib.hid (B3.out.old hb4)
    clear hb4 c2
    go_wp2_with fail
    refine (H4.out _).mono ?_
    rintro e w5 ⟨rfl, hb5⟩
    have B5 := Lib.hid (B4.out.old hb5)
    clear hb5
    go_wp2_with fail
    go_ret2
    exact ⟨HY.out, B5.out.1⟩

theorem en_no {K A D : Int} (h : good K A D = false) : Ending.returned (.tuple #[.string ⟨#[]⟩, .bool false]) = .returned (.tuple #[.string (encT K A D), .bool (good K A D)]) := by unfold encT; rw [h]; rfl
theorem en_yes {K A D : Nat} (h : good K A D = true) : Ending.returned (.tuple #[.string (hexT (num K A D)), .bool true]) = .returned (.tuple #[.string (encT K A D), .bool (good K A D)]) := by unfold encT numI; rw [h]; simp
theorem hexN {n : Nat} (h : n < 17592186044416) (w : World) : Calls Tryd.prog 14 #[.string (bitsT n)] w
    fun e w' => e = .returned (.tuple #[.string (hexT n), .bool true]) ∧ Below w.heap.size w w' := by
  have h1 := bitsi.hexOf (bitsT n) w
  have hr : bitsi.hexB (bitsT n) = true := by unfold bitsi.hexB rdB; rw [bits_ok, bits_size]; rfl
  have ht : bitsi.hexT (bitsT n) = hexT n := by unfold bitsi.hexT; rw [hr, if_pos rfl]; exact hex_of h
  rw [hr, ht] at h1
  exact h1
theorem encodeFrame (K A D : Int) (w : World) :
    Calls Tryd.prog 8 #[.agg #[.int .i64 K, .int .i64 A, .int .i64 D]] w fun e w' => e = .returned (.tuple #[.string (encT K A D), .bool (good K A D)]) ∧ Below w.heap.size w w' := by
  have hg := fun w => bitsOfFrame K A D w
  have B0 := Lib.hid (newS 25 #[.int .i64 K, .int .i64 A, .int .i64 D] w)
  cases hb : good K A D
  · have HN := Lib.hid (en_no hb)
    rw [hb] at hg HN
    have HG := Lib.hid hg
    clear hg hb
    generalize btT K A D = T at *
    go_enter Tryd.func8, Tryd.ntmps8
    go_wp2_with fail
    refine (HG.out _).mono ?_
    rintro e w1 ⟨rfl, hb1⟩
    have B1 := Lib.hid (B0.out.old hb1)
    go_wp2_with fail
    go_ret2
    exact ⟨HN.out, B1.out.1⟩
  · obtain ⟨k, a, d, rfl, rfl, rfl, h1, h2, h3, h4, h5⟩ := good_nat hb
    have HY := Lib.hid (en_yes hb)
    have HX := Lib.hid (fun w => hexN (num_lt h2 h4 h5) w)
    have ht : btT k a d = bitsT (num k a d) := by unfold btT numI; rw [hb]; simp
    rw [hb, ht] at hg
    rw [hb] at HY
    have HG := Lib.hid hg
    clear hg hb ht h1 h2 h3 h4 h5
    generalize bitsT (num k a d) = T at *
    generalize hexT (num k a d) = X at *
    go_enter Tryd.func8, Tryd.ntmps8
    go_wp2_with fail
    refine (HG.out _).mono ?_
    rintro e w1 ⟨rfl, hb1⟩
    have B1 := Lib.hid (B0.out.old hb1)
    clear hb1
    go_wp2_with fail
    refine (HX.out _).mono ?_
    rintro e w2 ⟨rfl, hb2⟩
    have B2 := Lib.hid (B1.out.old hb2)
    clear hb2
    go_wp2_with fail
    go_ret2
    exact ⟨HY.out, B2.out.1⟩

theorem mk_list (l : List UInt8) : (⟨l.toArray⟩ : ByteArray).data.toList = l := rfl
end Go.Proofs.YtpjpdfannnafbaaDoor.frmj
