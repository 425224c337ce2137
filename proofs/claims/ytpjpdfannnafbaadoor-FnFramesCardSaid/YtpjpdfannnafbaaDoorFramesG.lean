/- For every code of at most 65536 bytes (and trivially for a longer one) the law FnFrames returns true: a frame that is drawn has the model's hex text, or none if it is not valid; a valid one is decoded from its hex text, repaired from the one in which a bit is wrong, which itself is not decoded, and read from its text; what is drawn as a hex text or a text is repaired or read as the model does it. The card ties impl's table of words to the program's text. No condition of mine. -/
import Derived.Test.YtpjpdfannnafbaaDoorCards
import Derived.Test.YtpjpdfannnafbaaDoorTie
import Derived.Test.YtpjpdfannnafbaaDoorDrawW
import Derived.Test.YtpjpdfannnafbaaDoorFrmC
import Derived.Test.YtpjpdfannnafbaaDoorFrmJ
import Derived.Test.YtpjpdfannnafbaaDoorFrmU
import Derived.Test.YtpjpdfannnafbaaDoorFrmTab
import Derived.Test.YtpjpdfannnafbaaDoorCode
import Derived.WalkKit
import Derived.ProofKit
import Derived.OpenShut
import Derived.ShutString
import Derived.ChangeOld
import Derived.Below
import Derived.OpenVars
import Derived.Stop.LaidErr
import Derived.Deep.DeepHandedRow
import Derived.Lib.LaidTab
namespace Go.Proofs.YtpjpdfannnafbaaDoor.fnFrames
open Go.ChangeShapes Go.WideShapes Go.ChangeAt Go.RowKit
open Go.ChangeMaps (open_string shut_string)
open Go.Proofs.YtpjpdfannnafbaaDoor.code_ Go.Proofs.YtpjpdfannnafbaaDoor.cur Go.Proofs.YtpjpdfannnafbaaDoor.ats Go.Proofs.YtpjpdfannnafbaaDoor.frm Go.Proofs.YtpjpdfannnafbaaDoor.frmp
set_option linter.unusedVariables false

theorem bool_ne_self (b : Bool) : (b != b) = false := by simp
theorem bool_eq_self (b : Bool) : (b == b) = true := by simp
theorem int_ne_self (b : Int) : (b != b) = false := by simp
theorem str_ne_self (x : ByteArray) : (!(x.toList == x.toList)) = false := by simp
theorem str_eq_self (x : ByteArray) : (x.toList == x.toList) = true := by simp
theorem near_nat {x : Int} (h : 0 ≤ x) : ∃ k : Nat, x = k := Int.eq_ofNat_of_zero_le h
theorem read_text {u : ByteArray} (h : prB u = true) : good (prK u) (prA u) (prD u) = true ∧ frmu.ftT (prK u) (prA u) (prD u) = u := by
  obtain ⟨h1, h2⟩ := pr_only h
  refine ⟨h1, ?_⟩
  unfold frmu.ftT
  rw [h1, if_pos rfl]
  simpa using h2
theorem enc_good {k a d : Nat} (h : good k a d = true) : encT k a d = hexT (num k a d) := by unfold encT numI; rw [h, if_pos rfl]; simp
theorem text_good {k a d : Nat} (h : good k a d = true) : frmu.ftT k a d = frmt.textT k a d := by unfold frmu.ftT; rw [h, if_pos rfl]; simp

set_option maxRecDepth 100000 in
set_option maxHeartbeats 8000000 in
theorem walk (A : Option Addr) (n c : Nat) (z : List Int) (w : World) (w0 : IsRow .u8 w A n c z) (ht : frmy.Tab w) :
    Calls Tryd.prog 3 #[.slice A n c] w fun e w' => e = .returned (.bool true) ∧ Below w.heap.size w w' := by
  obtain ⟨hby, hnc, -⟩ := bytes_of w0
  clear w0
  have hv := Lib.hid (fun w => vBig A n c w)
  by_cases hbig : (65536 : Int) < (n : Int)
  · clear hby ht
    go_enter Tryd.func3, Tryd.ntmps3
    go_wp2_with fail
    refine (hv.out _).mono ?_
    rintro e w1 ⟨rfl, rfl⟩
    go_wp2_with fail
    go_ret
    exact ⟨rfl, Below.refl _ _⟩
  · have hd : decide ((65536 : Int) < (n : Int)) = false := by simpa using hbig
    have hn : n ≤ 65536 := by omega
    have H := Lib.hid hby
    have TT := Lib.hid (fun (W : World) (hb : Below w.heap.size w W) => ht.old hb)
    clear hby hbig hnc ht
    have HB0 := Lib.hid (Below.refl w.heap.size w)
    go_enter Tryd.func3, Tryd.ntmps3
    go_wp2_with fail
    refine (hv.out _).mono ?_
    rintro e wx ⟨rfl, rfl⟩
    clear hd hv
    go_wp2_with fail
    refine (draww.encodeFrame A n c _ hn H.out).mono ?_
    rintro e V1 ⟨K, A1, D, rfl, hN, h1⟩
    have HB1 := Lib.hid (HB0.out.trans (h1.mono HB0.out.size))
    clear HB0 h1
    have hgg := bool_ne_self (good K A1 D)
    have hee := str_ne_self (encT K A1 D)
    have EI := Lib.hid (fun w => frmj.encodeFrame K A1 D w)
    have ES := Lib.hid (fun w => frms.encode K A1 D w)
    have VI := Lib.hid (fun w => frmi.isValid K A1 D w)
    have F2 := Lib.hid (newS 25 #[.int .i64 K, .int .i64 A1, .int .i64 D] V1)
    have HB2a := Lib.hid (HB1.out.alloc HB1.out.size (.cells #[.int .i64 K, .int .i64 A1, .int .i64 D] 25))
    clear HB1
    go_wp2_with fail
    generalize (V1.alloc (.cells #[.int .i64 K, .int .i64 A1, .int .i64 D] 25)) = V3 at *
    generalize V1.heap.size = b3 at *
    refine (EI.out V3).mono ?_
    rintro e V4 ⟨rfl, h4⟩
    have HB4 := Lib.hid (HB2a.out.trans (h4.mono HB2a.out.size))
    have F4 := Lib.hid (F2.out.old h4)
    clear HB2a F2 h4
    have f0_ : V4.cell? ⟨b3, 0, none⟩ = some (.int .i64 K) := F4.out.cell 0
    have f1_ : V4.cell? ⟨b3, 1, none⟩ = some (.int .i64 A1) := F4.out.cell 1
    have f2_ : V4.cell? ⟨b3, 2, none⟩ = some (.int .i64 D) := F4.out.cell 2
    have flt_ := F4.out.2.2.1
    go_wp2_with fail
    clear f0_ f1_ f2_ flt_
    refine (ES.out V4).mono ?_
    rintro e V5 ⟨rfl, h5⟩
    have HB5 := Lib.hid (HB4.out.trans (h5.mono HB4.out.size))
    have F5 := Lib.hid (F4.out.old h5)
    clear HB4 F4 h5
    have f0_ : V5.cell? ⟨b3, 0, none⟩ = some (.int .i64 K) := F5.out.cell 0
    have f1_ : V5.cell? ⟨b3, 1, none⟩ = some (.int .i64 A1) := F5.out.cell 1
    have f2_ : V5.cell? ⟨b3, 2, none⟩ = some (.int .i64 D) := F5.out.cell 2
    have flt_ := F5.out.2.2.1
    go_wp2_with fail
    clear f0_ f1_ f2_ flt_
    refine (VI.out V5).mono ?_
    rintro e V6 ⟨rfl, h6⟩
    have HB6 := Lib.hid (HB5.out.trans (h6.mono HB5.out.size))
    have F6 := Lib.hid (F5.out.old h6)
    clear HB5 F5 h6
    clear hee EI ES VI
    cases hg : good K A1 D
    · rw [hg] at hgg
      clear hg hN
      go_wp2_with fail
      refine (draww.repairFrame A n c _ hn (Bytes_below H.out HB6.out)).mono ?_
      rintro e V7 ⟨t, rfl, ht, h7⟩
      have HB7 := Lib.hid (HB6.out.trans (h7.mono HB6.out.size))
      have F7 := Lib.hid (F6.out.old h7)
      clear HB6 F6 h7
      clear F7
      have RI := Lib.hid (fun w => frmk.repairFrame t w)
      have RS := Lib.hid (fun w => frme.repairFrame t w (by unfold maxLen; omega))
      have rbb := bool_ne_self (rfB t)
      have rii := int_ne_self (rfI t)
      clear ht
      have RI := Lib.hid (show ∀ w, Calls Tryd.prog 15 #[.string t] w fun e w' => e = .returned (.tuple #[.agg #[.int .i64 (rfK t : Nat), .int .i64 (rfA t : Nat), .int .i64 (rfD t : Nat)], .int .i64 (rfI t), .bool (rfB t)]) ∧ Below w.heap.size w w' from RI.out)
      have RS := Lib.hid (show ∀ w, Calls Tryd.prog 19 #[.string t] w fun e w' => e = .returned (.tuple #[.agg #[.int .i64 (rfK t : Nat), .int .i64 (rfA t : Nat), .int .i64 (rfD t : Nat)], .int .i64 (rfI t), .bool (rfB t)]) ∧ Below w.heap.size w w' from RS.out)
      generalize rfK t = rk at *
      generalize rfA t = ra at *
      generalize rfD t = rd at *
      generalize rfB t = rb at *
      generalize rfI t = ri at *
      go_wp2_with fail
      refine (RI.out V7).mono ?_
      rintro e V8 ⟨rfl, h8⟩
      have HB8 := Lib.hid (HB7.out.trans (h8.mono HB7.out.size))
      clear HB7 h8
      have G9 := Lib.hid (newS 25 #[.int .i64 (rk : Nat), .int .i64 (ra : Nat), .int .i64 (rd : Nat)] V8)
      have HB9a := Lib.hid (HB8.out.alloc HB8.out.size (.cells #[.int .i64 (rk : Nat), .int .i64 (ra : Nat), .int .i64 (rd : Nat)] 25))
      clear HB8
      go_wp2_with fail
      generalize (V8.alloc (.cells #[.int .i64 (rk : Nat), .int .i64 (ra : Nat), .int .i64 (rd : Nat)] 25)) = V10 at *
      generalize V8.heap.size = b10 at *
      refine (RS.out V10).mono ?_
      rintro e V11 ⟨rfl, h11⟩
      have HB11 := Lib.hid (HB9a.out.trans (h11.mono HB9a.out.size))
      have G11 := Lib.hid (G9.out.old h11)
      clear HB9a G9 h11
      have g0_ : V11.cell? ⟨b10, 0, none⟩ = some (.int .i64 (rk : Nat)) := G11.out.cell 0
      have g1_ : V11.cell? ⟨b10, 1, none⟩ = some (.int .i64 (ra : Nat)) := G11.out.cell 1
      have g2_ : V11.cell? ⟨b10, 2, none⟩ = some (.int .i64 (rd : Nat)) := G11.out.cell 2
      have glt_ := G11.out.2.2.1
      clear RI RS
      have R12 := Lib.hid (newS 25 #[.int .i64 (rk : Nat), .int .i64 (ra : Nat), .int .i64 (rd : Nat)] V11)
      have G12a := Lib.hid (G11.out.alloc (.cells #[.int .i64 (rk : Nat), .int .i64 (ra : Nat), .int .i64 (rd : Nat)] 25))
      clear G11
      have HB12a := Lib.hid (HB11.out.alloc HB11.out.size (.cells #[.int .i64 (rk : Nat), .int .i64 (ra : Nat), .int .i64 (rd : Nat)] 25))
      clear HB11
      go_wp2_with fail
      clear g0_ g1_ g2_ glt_
      generalize (V11.alloc (.cells #[.int .i64 (rk : Nat), .int .i64 (ra : Nat), .int .i64 (rd : Nat)] 25)) = V13 at *
      generalize V11.heap.size = b13 at *
      clear rbb rii
      refine (draww.parseFrameText A n c _ hn (Bytes_below H.out HB12a.out)).mono ?_
      rintro e V14 ⟨u, rfl, hu, h14⟩
      have HB14 := Lib.hid (HB12a.out.trans (h14.mono HB12a.out.size))
      have G14 := Lib.hid (G12a.out.old h14)
      have R14 := Lib.hid (R12.out.old h14)
      clear HB12a G12a R12 h14
      clear G14
      clear R14
      have PS := Lib.hid (fun w => frmu.parseFrameText u w (by omega))
      have PI := Lib.hid (fun (W : World) (hb : Below w.heap.size w W) => frmy.parseFrameText u W (TT.out W hb))
      have FI := Lib.hid (fun (W : World) (hb : Below w.heap.size w W) => frmy.frameText (prK u : Nat) (prA u : Nat) (prD u : Nat) W (TT.out W hb))
      have HT := Lib.hid (fun (h : prB u = true) => read_text h)
      have hbb := bool_eq_self (prB u)
      clear hu TT H
      have PS := Lib.hid (show ∀ w, Calls Tryd.prog 21 #[.string u] w fun e w' => e = .returned (.tuple #[.agg #[.int .i64 (prK u : Nat), .int .i64 (prA u : Nat), .int .i64 (prD u : Nat)], .bool (prB u)]) ∧ Below w.heap.size w w' from PS.out)
      have PI := Lib.hid (show ∀ W, Below w.heap.size w W → Calls Tryd.prog 17 #[.string u] W fun e w' => e = .returned (.tuple #[.agg #[.int .i64 (prK u : Nat), .int .i64 (prA u : Nat), .int .i64 (prD u : Nat)], .bool (prB u)]) ∧ Below W.heap.size W w' from PI.out)
      generalize prK u = pk at *
      generalize prA u = pa at *
      generalize prD u = pd at *
      generalize prB u = pb at *
      generalize frmu.ftT (pk : Int) (pa : Int) (pd : Int) = pt at *
      generalize good (pk : Int) (pa : Int) (pd : Int) = pg at *
      cases pb
      · clear HT
        go_wp2_with fail
        refine (PI.out V14 HB14.out).mono ?_
        rintro e V15 ⟨rfl, h15⟩
        have HB15 := Lib.hid (HB14.out.trans (h15.mono HB14.out.size))
        clear HB14 h15
        have P16 := Lib.hid (newS 25 #[.int .i64 (pk : Nat), .int .i64 (pa : Nat), .int .i64 (pd : Nat)] V15)
        have HB16a := Lib.hid (HB15.out.alloc HB15.out.size (.cells #[.int .i64 (pk : Nat), .int .i64 (pa : Nat), .int .i64 (pd : Nat)] 25))
        clear HB15
        go_wp2_with fail
        generalize (V15.alloc (.cells #[.int .i64 (pk : Nat), .int .i64 (pa : Nat), .int .i64 (pd : Nat)] 25)) = V17 at *
        generalize V15.heap.size = b17 at *
        refine (FI.out V17 HB16a.out).mono ?_
        rintro e V18 ⟨rfl, h18⟩
        have HB18 := Lib.hid (HB16a.out.trans (h18.mono HB16a.out.size))
        have P18 := Lib.hid (P16.out.old h18)
        clear HB16a P16 h18
        have p0_ : V18.cell? ⟨b17, 0, none⟩ = some (.int .i64 (pk : Nat)) := P18.out.cell 0
        have p1_ : V18.cell? ⟨b17, 1, none⟩ = some (.int .i64 (pa : Nat)) := P18.out.cell 1
        have p2_ : V18.cell? ⟨b17, 2, none⟩ = some (.int .i64 (pd : Nat)) := P18.out.cell 2
        have plt_ := P18.out.2.2.1
        go_wp2_with fail
        clear p0_ p1_ p2_ plt_
        refine (PS.out V18).mono ?_
        rintro e V19 ⟨rfl, h19⟩
        have HB19 := Lib.hid (HB18.out.trans (h19.mono HB18.out.size))
        have P19 := Lib.hid (P18.out.old h19)
        clear HB18 P18 h19
        have p0_ : V19.cell? ⟨b17, 0, none⟩ = some (.int .i64 (pk : Nat)) := P19.out.cell 0
        have p1_ : V19.cell? ⟨b17, 1, none⟩ = some (.int .i64 (pa : Nat)) := P19.out.cell 1
        have p2_ : V19.cell? ⟨b17, 2, none⟩ = some (.int .i64 (pd : Nat)) := P19.out.cell 2
        have plt_ := P19.out.2.2.1
        clear PI PS FI
        go_wp2_with fail
        go_ret
        exact ⟨rfl, HB19.out.alloc HB19.out.size _⟩
      · obtain ⟨rfl, rfl⟩ := HT.out rfl
        have hss := str_eq_self pt
        clear HT
        go_wp2_with fail
        refine (PI.out V14 HB14.out).mono ?_
        rintro e V15 ⟨rfl, h15⟩
        have HB15 := Lib.hid (HB14.out.trans (h15.mono HB14.out.size))
        clear HB14 h15
        have P16 := Lib.hid (newS 25 #[.int .i64 (pk : Nat), .int .i64 (pa : Nat), .int .i64 (pd : Nat)] V15)
        have HB16a := Lib.hid (HB15.out.alloc HB15.out.size (.cells #[.int .i64 (pk : Nat), .int .i64 (pa : Nat), .int .i64 (pd : Nat)] 25))
        clear HB15
        go_wp2_with fail
        generalize (V15.alloc (.cells #[.int .i64 (pk : Nat), .int .i64 (pa : Nat), .int .i64 (pd : Nat)] 25)) = V17 at *
        generalize V15.heap.size = b17 at *
        refine (FI.out V17 HB16a.out).mono ?_
        rintro e V18 ⟨rfl, h18⟩
        have HB18 := Lib.hid (HB16a.out.trans (h18.mono HB16a.out.size))
        have P18 := Lib.hid (P16.out.old h18)
        clear HB16a P16 h18
        have p0_ : V18.cell? ⟨b17, 0, none⟩ = some (.int .i64 (pk : Nat)) := P18.out.cell 0
        have p1_ : V18.cell? ⟨b17, 1, none⟩ = some (.int .i64 (pa : Nat)) := P18.out.cell 1
        have p2_ : V18.cell? ⟨b17, 2, none⟩ = some (.int .i64 (pd : Nat)) := P18.out.cell 2
        have plt_ := P18.out.2.2.1
        go_wp2_with fail
        clear p0_ p1_ p2_ plt_
        refine (PS.out V18).mono ?_
        rintro e V19 ⟨rfl, h19⟩
        have HB19 := Lib.hid (HB18.out.trans (h19.mono HB18.out.size))
        have P19 := Lib.hid (P18.out.old h19)
        clear HB18 P18 h19
        have p0_ : V19.cell? ⟨b17, 0, none⟩ = some (.int .i64 (pk : Nat)) := P19.out.cell 0
        have p1_ : V19.cell? ⟨b17, 1, none⟩ = some (.int .i64 (pa : Nat)) := P19.out.cell 1
        have p2_ : V19.cell? ⟨b17, 2, none⟩ = some (.int .i64 (pd : Nat)) := P19.out.cell 2
        have plt_ := P19.out.2.2.1
        clear PI PS FI
        go_wp2_with fail
        go_ret
        exact ⟨rfl, HB19.out.alloc HB19.out.size _⟩
    · obtain ⟨k, a, d, rfl, rfl, rfl, g1, g2, g3, g4, g5⟩ := good_nat hg
      have hm : ((d : Int)).tmod 56 = ((d % 56 : Nat) : Int) := by rw [Int.tmod_eq_emod_of_nonneg (by omega)]; omega
      have hm2 : (d : Int) % 56 = ((d % 56 : Nat) : Int) := by omega
      obtain ⟨X, T, U, Y, fa⟩ := frmc.fate hg (show d % 56 < 56 by omega)
      have hX := enc_good hg
      rw [fa.hex] at hX
      obtain ⟨q1, q2, q3, q4⟩ := pr_text hg
      have htx := text_good hg
      have DI := Lib.hid (show ∀ w, Calls Tryd.prog 11 #[.string X] w fun e w' => e = .returned (.tuple #[.agg #[.int .i64 k, .int .i64 a, .int .i64 d], .bool true]) ∧ Below w.heap.size w w' from fun w => by have h := frmk.decodeFrame X w; rw [fa.dB, fa.dK, fa.dA, fa.dD] at h; exact h)
      have UI := Lib.hid (show ∀ w, Calls Tryd.prog 12 #[.string X] w fun e w' => e = .returned (.tuple #[.string T, .bool true]) ∧ Below w.heap.size w w' from fun w => by have h := bitsi.bitsFromHex X w; rw [fa.un, fa.rd] at h; exact h)
      have FL := Lib.hid (show ∀ w, Calls Tryd.prog 13 #[.string T, .int .i64 ((d % 56 : Nat) : Int)] w fun e w' => e = .returned (.tuple #[.string U, .bool true]) ∧ Below w.heap.size w w' from fun w => by have h := bitsi.flipBit T ((d % 56 : Nat) : Int) w; rw [fa.fB, fa.fV] at h; exact h)
      have HX := Lib.hid (show ∀ w, Calls Tryd.prog 14 #[.string U] w fun e w' => e = .returned (.tuple #[.string Y, .bool true]) ∧ Below w.heap.size w w' from fun w => by have h := bitsi.hexOf U w; rw [fa.hB, fa.hT] at h; exact h)
      have RP := Lib.hid (show ∀ w, Calls Tryd.prog 15 #[.string Y] w fun e w' => e = .returned (.tuple #[.agg #[.int .i64 k, .int .i64 a, .int .i64 d], .int .i64 ((d % 56 : Nat) : Int), .bool true]) ∧ Below w.heap.size w w' from fun w => by have h := frmk.repairFrame Y w; rw [fa.rB, fa.rK, fa.rA, fa.rD, fa.rI] at h; exact h)
      have DN := Lib.hid (show ∀ w, Calls Tryd.prog 11 #[.string Y] w fun e w' => e = .returned (.tuple #[.agg #[.int .i64 0, .int .i64 0, .int .i64 0], .bool false]) ∧ Below w.heap.size w w' from fun w => by have h := frmk.decodeFrame Y w; rw [← frme.dc_no fa.no] at h; exact h)
      have TX := Lib.hid (show ∀ W, Below w.heap.size w W → Calls Tryd.prog 16 #[.agg #[.int .i64 k, .int .i64 a, .int .i64 d]] W fun e w' => e = .returned (.tuple #[.string (frmt.textT k a d), .bool true]) ∧ Below W.heap.size W w' from fun W hb => by have h := frmy.frameText k a d W (TT.out W hb); rw [htx, hg] at h; exact h)
      have TP := Lib.hid (show ∀ W, Below w.heap.size w W → Calls Tryd.prog 17 #[.string (frmt.textT k a d)] W fun e w' => e = .returned (.tuple #[.agg #[.int .i64 k, .int .i64 a, .int .i64 d], .bool true]) ∧ Below W.heap.size W w' from fun W hb => by have h := frmy.parseFrameText (frmt.textT k a d) W (TT.out W hb); rw [q1, q2, q3, q4] at h; exact h)
      have hz : ((T.size : Int) != 56) = false := by rw [fa.size]; rfl
      have hii := int_ne_self ((d % 56 : Nat) : Int)
      have d0 : (0 : Int) ≤ (d : Int) := by omega
      rw [hX]
      rw [hg] at hgg
      clear hg hgg hN g1 g2 g3 g4 g5 fa hX q1 q2 q3 q4 htx
      generalize d % 56 = ii at *
      generalize frmt.textT k a d = tx at *
      go_wp2_with fail
      refine (DI.out V6).mono ?_
      rintro e V7 ⟨rfl, h7⟩
      have HB7 := Lib.hid (HB6.out.trans (h7.mono HB6.out.size))
      have F7 := Lib.hid (F6.out.old h7)
      clear HB6 F6 h7
      have B8 := Lib.hid (newS 25 #[.int .i64 k, .int .i64 a, .int .i64 d] V7)
      have F8a := Lib.hid (F7.out.alloc (.cells #[.int .i64 k, .int .i64 a, .int .i64 d] 25))
      clear F7
      have HB8a := Lib.hid (HB7.out.alloc HB7.out.size (.cells #[.int .i64 k, .int .i64 a, .int .i64 d] 25))
      clear HB7
      go_wp2_with fail
      generalize (V7.alloc (.cells #[.int .i64 k, .int .i64 a, .int .i64 d] 25)) = V9 at *
      generalize V7.heap.size = b9 at *
      refine (UI.out V9).mono ?_
      rintro e V10 ⟨rfl, h10⟩
      have HB10 := Lib.hid (HB8a.out.trans (h10.mono HB8a.out.size))
      have F10 := Lib.hid (F8a.out.old h10)
      have B10 := Lib.hid (B8.out.old h10)
      clear HB8a F8a B8 h10
      have f0_ : V10.cell? ⟨b3, 0, none⟩ = some (.int .i64 k) := F10.out.cell 0
      have f1_ : V10.cell? ⟨b3, 1, none⟩ = some (.int .i64 a) := F10.out.cell 1
      have f2_ : V10.cell? ⟨b3, 2, none⟩ = some (.int .i64 d) := F10.out.cell 2
      have flt_ := F10.out.2.2.1
      have b0_ : V10.cell? ⟨b9, 0, none⟩ = some (.int .i64 k) := B10.out.cell 0
      have b1_ : V10.cell? ⟨b9, 1, none⟩ = some (.int .i64 a) := B10.out.cell 1
      have b2_ : V10.cell? ⟨b9, 2, none⟩ = some (.int .i64 d) := B10.out.cell 2
      have blt_ := B10.out.2.2.1
      go_wp2_with fail
      clear f0_ f1_ f2_ flt_ b0_ b1_ b2_ blt_
      refine (FL.out V10).mono ?_
      rintro e V11 ⟨rfl, h11⟩
      have HB11 := Lib.hid (HB10.out.trans (h11.mono HB10.out.size))
      have F11 := Lib.hid (F10.out.old h11)
      have B11 := Lib.hid (B10.out.old h11)
      clear HB10 F10 B10 h11
      clear B11
      clear hz hm hm2 d0
      go_wp2_with fail
      refine (HX.out V11).mono ?_
      rintro e V12 ⟨rfl, h12⟩
      have HB12 := Lib.hid (HB11.out.trans (h12.mono HB11.out.size))
      have F12 := Lib.hid (F11.out.old h12)
      clear HB11 F11 h12
      go_wp2_with fail
      refine (RP.out V12).mono ?_
      rintro e V13 ⟨rfl, h13⟩
      have HB13 := Lib.hid (HB12.out.trans (h13.mono HB12.out.size))
      have F13 := Lib.hid (F12.out.old h13)
      clear HB12 F12 h13
      have G14 := Lib.hid (newS 25 #[.int .i64 k, .int .i64 a, .int .i64 d] V13)
      have F14a := Lib.hid (F13.out.alloc (.cells #[.int .i64 k, .int .i64 a, .int .i64 d] 25))
      clear F13
      have HB14a := Lib.hid (HB13.out.alloc HB13.out.size (.cells #[.int .i64 k, .int .i64 a, .int .i64 d] 25))
      clear HB13
      go_wp2_with fail
      generalize (V13.alloc (.cells #[.int .i64 k, .int .i64 a, .int .i64 d] 25)) = V15 at *
      generalize V13.heap.size = b15 at *
      refine (DN.out V15).mono ?_
      rintro e V16 ⟨rfl, h16⟩
      have HB16 := Lib.hid (HB14a.out.trans (h16.mono HB14a.out.size))
      have F16 := Lib.hid (F14a.out.old h16)
      have G16 := Lib.hid (G14.out.old h16)
      clear HB14a F14a G14 h16
      have f0_ : V16.cell? ⟨b3, 0, none⟩ = some (.int .i64 k) := F16.out.cell 0
      have f1_ : V16.cell? ⟨b3, 1, none⟩ = some (.int .i64 a) := F16.out.cell 1
      have f2_ : V16.cell? ⟨b3, 2, none⟩ = some (.int .i64 d) := F16.out.cell 2
      have flt_ := F16.out.2.2.1
      have Z17 := Lib.hid (newS 25 #[.int .i64 0, .int .i64 0, .int .i64 0] V16)
      have F17a := Lib.hid (F16.out.alloc (.cells #[.int .i64 0, .int .i64 0, .int .i64 0] 25))
      clear F16
      have G17a := Lib.hid (G16.out.alloc (.cells #[.int .i64 0, .int .i64 0, .int .i64 0] 25))
      clear G16
      have HB17a := Lib.hid (HB16.out.alloc HB16.out.size (.cells #[.int .i64 0, .int .i64 0, .int .i64 0] 25))
      clear HB16
      go_wp2_with fail
      clear f0_ f1_ f2_ flt_
      generalize (V16.alloc (.cells #[.int .i64 0, .int .i64 0, .int .i64 0] 25)) = V18 at *
      generalize V16.heap.size = b18 at *
      refine (TX.out V18 HB17a.out).mono ?_
      rintro e V19 ⟨rfl, h19⟩
      have HB19 := Lib.hid (HB17a.out.trans (h19.mono HB17a.out.size))
      have F19 := Lib.hid (F17a.out.old h19)
      have G19 := Lib.hid (G17a.out.old h19)
      have Z19 := Lib.hid (Z17.out.old h19)
      clear HB17a F17a G17a Z17 h19
      clear Z19
      go_wp2_with fail
      refine (TP.out V19 HB19.out).mono ?_
      rintro e V20 ⟨rfl, h20⟩
      have HB20 := Lib.hid (HB19.out.trans (h20.mono HB19.out.size))
      have F20 := Lib.hid (F19.out.old h20)
      have G20 := Lib.hid (G19.out.old h20)
      clear HB19 F19 G19 h20
      have f0_ : V20.cell? ⟨b3, 0, none⟩ = some (.int .i64 k) := F20.out.cell 0
      have f1_ : V20.cell? ⟨b3, 1, none⟩ = some (.int .i64 a) := F20.out.cell 1
      have f2_ : V20.cell? ⟨b3, 2, none⟩ = some (.int .i64 d) := F20.out.cell 2
      have flt_ := F20.out.2.2.1
      have g0_ : V20.cell? ⟨b15, 0, none⟩ = some (.int .i64 k) := G20.out.cell 0
      have g1_ : V20.cell? ⟨b15, 1, none⟩ = some (.int .i64 a) := G20.out.cell 1
      have g2_ : V20.cell? ⟨b15, 2, none⟩ = some (.int .i64 d) := G20.out.cell 2
      have glt_ := G20.out.2.2.1
      have P21 := Lib.hid (newS 25 #[.int .i64 k, .int .i64 a, .int .i64 d] V20)
      have F21a := Lib.hid (F20.out.alloc (.cells #[.int .i64 k, .int .i64 a, .int .i64 d] 25))
      clear F20
      have G21a := Lib.hid (G20.out.alloc (.cells #[.int .i64 k, .int .i64 a, .int .i64 d] 25))
      clear G20
      have HB21a := Lib.hid (HB20.out.alloc HB20.out.size (.cells #[.int .i64 k, .int .i64 a, .int .i64 d] 25))
      clear HB20
      clear DI UI FL HX RP DN TX TP
      go_wp2_with fail
      clear f0_ f1_ f2_ flt_ g0_ g1_ g2_ glt_
      generalize (V20.alloc (.cells #[.int .i64 k, .int .i64 a, .int .i64 d] 25)) = V22 at *
      generalize V20.heap.size = b22 at *
      refine (draww.repairFrame A n c _ hn (Bytes_below H.out HB21a.out)).mono ?_
      rintro e V23 ⟨t, rfl, ht, h23⟩
      have HB23 := Lib.hid (HB21a.out.trans (h23.mono HB21a.out.size))
      have F23 := Lib.hid (F21a.out.old h23)
      have G23 := Lib.hid (G21a.out.old h23)
      have P23 := Lib.hid (P21.out.old h23)
      clear HB21a F21a G21a P21 h23
      clear F23
      clear G23
      clear P23
      have RI := Lib.hid (fun w => frmk.repairFrame t w)
      have RS := Lib.hid (fun w => frme.repairFrame t w (by unfold maxLen; omega))
      have rbb := bool_ne_self (rfB t)
      have rii := int_ne_self (rfI t)
      clear ht
      have RI := Lib.hid (show ∀ w, Calls Tryd.prog 15 #[.string t] w fun e w' => e = .returned (.tuple #[.agg #[.int .i64 (rfK t : Nat), .int .i64 (rfA t : Nat), .int .i64 (rfD t : Nat)], .int .i64 (rfI t), .bool (rfB t)]) ∧ Below w.heap.size w w' from RI.out)
      have RS := Lib.hid (show ∀ w, Calls Tryd.prog 19 #[.string t] w fun e w' => e = .returned (.tuple #[.agg #[.int .i64 (rfK t : Nat), .int .i64 (rfA t : Nat), .int .i64 (rfD t : Nat)], .int .i64 (rfI t), .bool (rfB t)]) ∧ Below w.heap.size w w' from RS.out)
      generalize rfK t = rk at *
      generalize rfA t = ra at *
      generalize rfD t = rd at *
      generalize rfB t = rb at *
      generalize rfI t = ri at *
      go_wp2_with fail
      refine (RI.out V23).mono ?_
      rintro e V24 ⟨rfl, h24⟩
      have HB24 := Lib.hid (HB23.out.trans (h24.mono HB23.out.size))
      clear HB23 h24
      have G25 := Lib.hid (newS 25 #[.int .i64 (rk : Nat), .int .i64 (ra : Nat), .int .i64 (rd : Nat)] V24)
      have HB25a := Lib.hid (HB24.out.alloc HB24.out.size (.cells #[.int .i64 (rk : Nat), .int .i64 (ra : Nat), .int .i64 (rd : Nat)] 25))
      clear HB24
      go_wp2_with fail
      generalize (V24.alloc (.cells #[.int .i64 (rk : Nat), .int .i64 (ra : Nat), .int .i64 (rd : Nat)] 25)) = V26 at *
      generalize V24.heap.size = b26 at *
      refine (RS.out V26).mono ?_
      rintro e V27 ⟨rfl, h27⟩
      have HB27 := Lib.hid (HB25a.out.trans (h27.mono HB25a.out.size))
      have G27 := Lib.hid (G25.out.old h27)
      clear HB25a G25 h27
      have g0_ : V27.cell? ⟨b26, 0, none⟩ = some (.int .i64 (rk : Nat)) := G27.out.cell 0
      have g1_ : V27.cell? ⟨b26, 1, none⟩ = some (.int .i64 (ra : Nat)) := G27.out.cell 1
      have g2_ : V27.cell? ⟨b26, 2, none⟩ = some (.int .i64 (rd : Nat)) := G27.out.cell 2
      have glt_ := G27.out.2.2.1
      clear RI RS
      have R28 := Lib.hid (newS 25 #[.int .i64 (rk : Nat), .int .i64 (ra : Nat), .int .i64 (rd : Nat)] V27)
      have G28a := Lib.hid (G27.out.alloc (.cells #[.int .i64 (rk : Nat), .int .i64 (ra : Nat), .int .i64 (rd : Nat)] 25))
      clear G27
      have HB28a := Lib.hid (HB27.out.alloc HB27.out.size (.cells #[.int .i64 (rk : Nat), .int .i64 (ra : Nat), .int .i64 (rd : Nat)] 25))
      clear HB27
      go_wp2_with fail
      clear g0_ g1_ g2_ glt_
      generalize (V27.alloc (.cells #[.int .i64 (rk : Nat), .int .i64 (ra : Nat), .int .i64 (rd : Nat)] 25)) = V29 at *
      generalize V27.heap.size = b29 at *
      clear rbb rii
      refine (draww.parseFrameText A n c _ hn (Bytes_below H.out HB28a.out)).mono ?_
      rintro e V30 ⟨u, rfl, hu, h30⟩
      have HB30 := Lib.hid (HB28a.out.trans (h30.mono HB28a.out.size))
      have G30 := Lib.hid (G28a.out.old h30)
      have R30 := Lib.hid (R28.out.old h30)
      clear HB28a G28a R28 h30
      clear G30
      clear R30
      have PS := Lib.hid (fun w => frmu.parseFrameText u w (by omega))
      have PI := Lib.hid (fun (W : World) (hb : Below w.heap.size w W) => frmy.parseFrameText u W (TT.out W hb))
      have FI := Lib.hid (fun (W : World) (hb : Below w.heap.size w W) => frmy.frameText (prK u : Nat) (prA u : Nat) (prD u : Nat) W (TT.out W hb))
      have HT := Lib.hid (fun (h : prB u = true) => read_text h)
      have hbb := bool_eq_self (prB u)
      clear hu TT H
      have PS := Lib.hid (show ∀ w, Calls Tryd.prog 21 #[.string u] w fun e w' => e = .returned (.tuple #[.agg #[.int .i64 (prK u : Nat), .int .i64 (prA u : Nat), .int .i64 (prD u : Nat)], .bool (prB u)]) ∧ Below w.heap.size w w' from PS.out)
      have PI := Lib.hid (show ∀ W, Below w.heap.size w W → Calls Tryd.prog 17 #[.string u] W fun e w' => e = .returned (.tuple #[.agg #[.int .i64 (prK u : Nat), .int .i64 (prA u : Nat), .int .i64 (prD u : Nat)], .bool (prB u)]) ∧ Below W.heap.size W w' from PI.out)
      generalize prK u = pk at *
      generalize prA u = pa at *
      generalize prD u = pd at *
      generalize prB u = pb at *
      generalize frmu.ftT (pk : Int) (pa : Int) (pd : Int) = pt at *
      generalize good (pk : Int) (pa : Int) (pd : Int) = pg at *
      cases pb
      · clear HT
        go_wp2_with fail
        refine (PI.out V30 HB30.out).mono ?_
        rintro e V31 ⟨rfl, h31⟩
        have HB31 := Lib.hid (HB30.out.trans (h31.mono HB30.out.size))
        clear HB30 h31
        have P32 := Lib.hid (newS 25 #[.int .i64 (pk : Nat), .int .i64 (pa : Nat), .int .i64 (pd : Nat)] V31)
        have HB32a := Lib.hid (HB31.out.alloc HB31.out.size (.cells #[.int .i64 (pk : Nat), .int .i64 (pa : Nat), .int .i64 (pd : Nat)] 25))
        clear HB31
        go_wp2_with fail
        generalize (V31.alloc (.cells #[.int .i64 (pk : Nat), .int .i64 (pa : Nat), .int .i64 (pd : Nat)] 25)) = V33 at *
        generalize V31.heap.size = b33 at *
        refine (FI.out V33 HB32a.out).mono ?_
        rintro e V34 ⟨rfl, h34⟩
        have HB34 := Lib.hid (HB32a.out.trans (h34.mono HB32a.out.size))
        have P34 := Lib.hid (P32.out.old h34)
        clear HB32a P32 h34
        have p0_ : V34.cell? ⟨b33, 0, none⟩ = some (.int .i64 (pk : Nat)) := P34.out.cell 0
        have p1_ : V34.cell? ⟨b33, 1, none⟩ = some (.int .i64 (pa : Nat)) := P34.out.cell 1
        have p2_ : V34.cell? ⟨b33, 2, none⟩ = some (.int .i64 (pd : Nat)) := P34.out.cell 2
        have plt_ := P34.out.2.2.1
        go_wp2_with fail
        clear p0_ p1_ p2_ plt_
        refine (PS.out V34).mono ?_
        rintro e V35 ⟨rfl, h35⟩
        have HB35 := Lib.hid (HB34.out.trans (h35.mono HB34.out.size))
        have P35 := Lib.hid (P34.out.old h35)
        clear HB34 P34 h35
        have p0_ : V35.cell? ⟨b33, 0, none⟩ = some (.int .i64 (pk : Nat)) := P35.out.cell 0
        have p1_ : V35.cell? ⟨b33, 1, none⟩ = some (.int .i64 (pa : Nat)) := P35.out.cell 1
        have p2_ : V35.cell? ⟨b33, 2, none⟩ = some (.int .i64 (pd : Nat)) := P35.out.cell 2
        have plt_ := P35.out.2.2.1
        clear PI PS FI
        go_wp2_with fail
        go_ret
        exact ⟨rfl, HB35.out.alloc HB35.out.size _⟩
      · obtain ⟨rfl, rfl⟩ := HT.out rfl
        have hss := str_eq_self pt
        clear HT
        go_wp2_with fail
        refine (PI.out V30 HB30.out).mono ?_
        rintro e V31 ⟨rfl, h31⟩
        have HB31 := Lib.hid (HB30.out.trans (h31.mono HB30.out.size))
        clear HB30 h31
        have P32 := Lib.hid (newS 25 #[.int .i64 (pk : Nat), .int .i64 (pa : Nat), .int .i64 (pd : Nat)] V31)
        have HB32a := Lib.hid (HB31.out.alloc HB31.out.size (.cells #[.int .i64 (pk : Nat), .int .i64 (pa : Nat), .int .i64 (pd : Nat)] 25))
        clear HB31
        go_wp2_with fail
        generalize (V31.alloc (.cells #[.int .i64 (pk : Nat), .int .i64 (pa : Nat), .int .i64 (pd : Nat)] 25)) = V33 at *
        generalize V31.heap.size = b33 at *
        refine (FI.out V33 HB32a.out).mono ?_
        rintro e V34 ⟨rfl, h34⟩
        have HB34 := Lib.hid (HB32a.out.trans (h34.mono HB32a.out.size))
        have P34 := Lib.hid (P32.out.old h34)
        clear HB32a P32 h34
        have p0_ : V34.cell? ⟨b33, 0, none⟩ = some (.int .i64 (pk : Nat)) := P34.out.cell 0
        have p1_ : V34.cell? ⟨b33, 1, none⟩ = some (.int .i64 (pa : Nat)) := P34.out.cell 1
        have p2_ : V34.cell? ⟨b33, 2, none⟩ = some (.int .i64 (pd : Nat)) := P34.out.cell 2
        have plt_ := P34.out.2.2.1
        go_wp2_with fail
        clear p0_ p1_ p2_ plt_
        refine (PS.out V34).mono ?_
        rintro e V35 ⟨rfl, h35⟩
        have HB35 := Lib.hid (HB34.out.trans (h35.mono HB34.out.size))
        have P35 := Lib.hid (P34.out.old h35)
        clear HB34 P34 h35
        have p0_ : V35.cell? ⟨b33, 0, none⟩ = some (.int .i64 (pk : Nat)) := P35.out.cell 0
        have p1_ : V35.cell? ⟨b33, 1, none⟩ = some (.int .i64 (pa : Nat)) := P35.out.cell 1
        have p2_ : V35.cell? ⟨b33, 2, none⟩ = some (.int .i64 (pd : Nat)) := P35.out.cell 2
        have plt_ := P35.out.2.2.1
        clear PI PS FI
        go_wp2_with fail
        go_ret
        exact ⟨rfl, HB35.out.alloc HB35.out.size _⟩

theorem own : ownKnob Tryd.prog.godebug = none := by kernel_rfl
theorem laidOut : laidOutB Tryd.prog = true := by kernel_rfl


set_option maxRecDepth 100000 in
theorem contract (H : Type) (enc : TypeId × Value → H) (W : World) (base : Nat) (args : Array Value) (ds gs : List (DataW H)) (before : List MemPlace)
    (hval : ∀ (j : Nat) t v, Tryd.f3.params[j]? = some t → args[j]? = some v → Value.okWide Tryd.prog W .any base t v)
    (hW : DataW.Whole enc Tryd.prog Tryd.f3.params.toList Rows.fnFramesSpec.vars false W args.toList ds gs before) (hL : laidMetH Tryd.prog Rows.fnFramesRow.laid W) :
    Calls Tryd.prog 3 args W fun e W' => ∃ v, e = .returned v ∧ Rows.fnFramesSpec.post enc Tryd.prog Tryd.f3 false true false false W args v W' := by
  have hW' := hW
  obtain ⟨p, q, hA0, hV, rfl, hfz, hnd⟩ := hW
  have hA : DataW.TrodAll enc Tryd.prog W 0 (fun _ => true) true Tryd.f3.params.toList args.toList ds p := hA0
  rw [Tryd.params3] at hA hval
  obtain ⟨v0, vs0, d0, ds0, p0, q0, hargs, rfl, rfl, h0, r0⟩ := trodAll_cons hA
  obtain ⟨rfl, rfl, rfl⟩ := trodAll_nil r0
  obtain rfl : args = #[v0] := by cases args; simp_all
  obtain ⟨dv0, rfl⟩ : ∃ dv0, gs = [dv0] := by
    match gs, laid_.vars_length hV with
    | [dv0], _ => exact ⟨dv0, rfl⟩
  obtain ⟨a0, len0, cap0, rfl⟩ := okWide_slice Tryd.underlying22 (hval 0 22 v0 rfl rfl)
  have k0 := h0
  have lt0 : ∀ x ∈ p0, x.block < W.heap.size := by obtain ⟨m, hm⟩ := k0; exact DataW.trod_lt m _ _ _ hm
  obtain ⟨z0, w0⟩ : ∃ zs, IsRow .u8 W a0 len0 cap0 zs := by
    obtain ⟨fuel, hf⟩ := h0
    rcases open_ints Tryd.underlying22 Tryd.underlying5 (by kernel_rfl) hf with ⟨hcs, _⟩ | ⟨x, l, c, zs, hcs, _, hl, hm, hz, _, hcell, hwz⟩
    · simp [Value.cells] at hcs
      obtain ⟨rfl, rfl, rfl⟩ := hcs
      exact ⟨[], .inl ⟨rfl, rfl, rfl, rfl⟩⟩
    · simp [Value.cells] at hcs
      obtain ⟨rfl, rfl, rfl⟩ := hcs
      exact ⟨zs, .inr ⟨_, rfl, hl, hm, by simpa using hz, hcell, hwz⟩⟩
  clear hA0
  refine (walk a0 len0 cap0 z0 W w0 (frmtab.tab_of hL)).mono fun e W' ⟨he, bel⟩ => ?_
  subst he
  exact ⟨_, rfl, _, _, _, [], _, _, hW', trodAll_mk1 (shut_bool Tryd.underlying4 _), (trodAll_cons_mk (Below.trod laidOut (by kernel_rfl) (of_decide_eq_true (by kernel_rfl)) k0 bel lt0) trodAll_mk0), Below.trodVars laidOut bel (by kernel_rfl) hV, bel.frame _, fun h => by cases h⟩

noncomputable def laidWorld (os : Os) : World :=
  { World.holding Tryd.prog os ⟨#[], #[], []⟩ with heap := ((World.holding Tryd.prog os ⟨#[], #[], []⟩).heap.modify 0 fun
      | .cells _ t frozen => .cells frmt.wordsC t frozen
      | o => o) }
theorem laid_met (os : Os) : laidMet Tryd.prog Rows.fnFramesRow.laid ((laidWorld os).forCall (fun _ _ => 0) ⟨#[], #[.slice none 0 0], []⟩).memory :=
  laidMet_of_run' 8 (by kernel_rfl) (by kernel_rfl)
theorem reads (os : Os) {H : Type} (enc : TypeId × Value → H) : ∃ places, DataW.whole enc Tryd.prog ((laidWorld os).forCall (fun _ _ => 0) ⟨#[], #[.slice none 0 0], []⟩).memory Tryd.f3.params.toList Rows.fnFramesSpec.vars false (#[.slice none 0 0] : Array Value).toList 8 = some ([.nil], [Rows.laid_loop_example_g00875_impl_frameWords], places) :=
  ⟨MemPlace.row ⟨0, 0, none⟩ 5, by kernel_rfl⟩

set_option maxRecDepth 100000 in
theorem lifted (os : Os) (started : os.Started) (H : Type) (enc : TypeId × Value → H) (F : Stop.Interp) :
    ReturnsInHanded {} Tryd.checked os 3 .any ((OpenSpec.ofChange Rows.fnFramesSpec).preRow enc Tryd.prog Tryd.f3 Rows.fnFramesRow.domain false Rows.fnFramesRow.laid) (((OpenSpec.ofChange Rows.fnFramesSpec).at F).post enc Tryd.prog Tryd.f3 false true false false) := by
  obtain ⟨places, hx⟩ := reads os enc
  refine returnsInHanded_of_row (C := Tryd.checked) (s := OpenSpec.ofChange Rows.fnFramesSpec) own started (by kernel_rfl) Tryd.func3
    (witness_row_at (enc := enc) (C := Tryd.checked) false (laidWorld os) #[.slice none 0 0] rfl (by kernel_rfl) (by kernel_rfl) (by kernel_rfl)
      (OpenSpec.preRow_of_cond 8 hx (by kernel_rfl) (fun k hk => by cases hk) (by kernel_rfl) (laid_met os))) ?_
  intro W base args ds gs before hval hW _ _ _ hL _ _
  exact contract H enc W base args ds gs before hval hW hL

theorem said : Rows.FnFramesSaid :=
  OpenClaim.holds_of_cond 3 Tryd.f3 rfl rfl rfl rfl rfl rfl rfl ⟨rfl, rfl, rfl, rfl, rfl⟩ rfl rfl rfl rfl rfl (by kernel_rfl) Tryd.func3 (by kernel_rfl)
    (of_decide_eq_true (by kernel_rfl)) (by unfold Func.isWrapper; first | (rw [if_pos (by decide +kernel)]; kernel_rfl) | (rw [if_neg (by decide +kernel)]; exact ⟨rfl, rfl⟩))
    (fun os started H enc _ F => by rw [OpenClaim.pre_eq_preRow]; exact lifted os started H enc F)

theorem plain (f : FuncId) (fn : Func) (hf : Tryd.pinned.checked.prog.funcNamed "loop.example/g00875/laws.FnFrames" = some f) (hfn : Tryd.pinned.checked.prog.funcs[f]? = some fn) :
    false = Tryd.pinned.checked.prog.looks [] ∧ ∀ (j : Nat) t, fn.params[j]? = some t → Tryd.pinned.checked.prog.wantsStandIn t = false := by
  obtain rfl : f = 3 := Option.some.inj ((show Tryd.prog.funcNamed "loop.example/g00875/laws.FnFrames" = some 3 by kernel_rfl).symm.trans hf) |>.symm
  obtain rfl : fn = Tryd.f3 := (Option.some.inj (Tryd.func3.symm.trans hfn)).symm
  refine ⟨by kernel_rfl, fun j t ht => ?_⟩
  rw [Tryd.params3] at ht
  have hm := Array.mem_of_getElem? ht
  simp at hm
  obtain rfl := hm
  exact (show Tryd.prog.wantsStandIn 22 = false by kernel_rfl)

theorem proved : Rows.FnFramesCardSaid :=
  Claim7.holds_tied_plain_at .later [] _ _ _ _ said (fun _ h => by cases h) (by kernel_rfl) (fun _ h => by cases h) fnFrames_row_tie rfl ⟨rfl, rfl⟩ (by kernel_rfl) rfl plain (by kernel_rfl)
#print axioms proved
end Go.Proofs.YtpjpdfannnafbaaDoor.fnFrames
