/- For every code of at most 65536 bytes (and trivially for a longer one) the law FnFlightNames returns true: what it draws are short strings, bytes and numbers in range, whatever the bytes are; names are answered as the model answers, and recovered from their bits and from both parts; letters from their codes. The card ties the two tables of unicode/utf8 to the program; no step reads them. -/
import Derived.Test.YtjfhkbpkiblkmaaDoorCards
import Derived.Test.YtjfhkbpkiblkmaaDoorTie
import Derived.Test.YtjfhkbpkiblkmaaDoorDrawN
import Derived.Test.YtjfhkbpkiblkmaaDoorNamM
import Derived.Test.YtjfhkbpkiblkmaaDoorCode
import Derived.WalkKit
import Derived.ProofKit
import Derived.OpenShut
import Derived.ShutString
import Derived.ChangeOld
import Derived.Below
import Derived.Stop.LaidErr
import Derived.Deep.DeepHandedRow
import Derived.Lib.LaidTab
import Derived.Deep.DeepCutAuto
namespace Go.Proofs.YtjfhkbpkiblkmaaDoor.fnFlightNames
open Go.ChangeShapes Go.WideShapes Go.ChangeAt Go.RowKit
open Go.ChangeMaps (open_string shut_string)
open Go.Proofs.YtjfhkbpkiblkmaaDoor.code_ Go.Proofs.YtjfhkbpkiblkmaaDoor.cur
set_option linter.unusedVariables false

theorem namt_size (s : ByteArray) : (nam.nbT s).size ≤ 48 := by
  unfold nam.nbT
  split
  · rw [nam.nbA_size]; omega
  · exact Nat.zero_le _
theorem bool_ne_self (b : Bool) : (b != b) = false := by simp
theorem str_ne_self (x : ByteArray) : (!(x.toList == x.toList)) = false := by simp

set_option maxRecDepth 100000 in
set_option maxHeartbeats 8000000 in
theorem walk (A : Option Addr) (n c : Nat) (z : List Int) (w : World) (w0 : IsRow .u8 w A n c z) :
    Calls Tryd.prog 3 #[.slice A n c] w fun e w' => e = .returned (.bool true) ∧ Below w.heap.size w w' := by
  obtain ⟨hby, hnc, -⟩ := bytes_of w0
  clear w0
  have hv := Lib.hid (fun w => rBig A n c w)
  by_cases hbig : (65536 : Int) < (n : Int)
  · clear hby
    go_enter Tryd.func3, Tryd.ntmps3
    go_wp2_with fail
    refine (hv.out _).mono ?_
    rintro e w1 ⟨rfl, rfl⟩
    go_wp2_with fail
    go_ret
    exact ⟨rfl, Below.refl _ _⟩
  · have hd : decide ((65536 : Int) < (n : Int)) = false := by simpa using hbig
    have hn : n ≤ 65536 := by omega
    have H := Lib.hid hby
    clear hby hbig
    go_enter Tryd.func3, Tryd.ntmps3
    go_wp2_with fail
    refine (hv.out _).mono ?_
    rintro e w1 ⟨rfl, rfl⟩
    clear hv hd
    go_wp2_with fail
    refine (drawn.nameBits A n c _ hn H.out).mono ?_
    rintro e w1 ⟨s, rfl, hs, hb1⟩
    have I1 := Lib.hid (fun w => nami.nameBits s w)
    have S1 := Lib.hid (fun w => nams.nameBits s w (by unfold maxLen; omega))
    have I2 := Lib.hid (fun w => nami.isFlightName s w)
    have I3 := Lib.hid (fun w => namq.implParse (nam.nbT s) w (by unfold maxLen; have := namt_size s; omega))
    have P0 := Lib.hid (fun w => namn.namePart s 0 w)
    have P1 := Lib.hid (fun w => namn.namePart s 1 w)
    have J := Lib.hid (fun h => namm.join_back (s := s) h)
    have K := Lib.hid (fun h => namm.bits_back (s := s) h)
    have T := Lib.hid (fun h => namn.nbT_yes (s := s) h)
    have O := Lib.hid (fun h => namm.np_ok (s := s) h)
    have D := Lib.hid (fun h0 h1 w => namq.implJoin (nam.npV s 0) (nam.npV s 1) w h0 h1)
    have Q0 := Lib.hid (namm.np_bd s 0)
    have Q1 := Lib.hid (namm.np_bd s 1)
    have hss := str_ne_self s
    cases hB : nam.nmB s
    · rw [hB] at I1 S1 I2
      clear hB I3 P0 P1 J K T O D Q0 Q1
      generalize nam.nbT s = t at *
      have htt := str_ne_self t
      go_wp2_with fail
      refine (I1.out _).mono ?_
      rintro e w2 ⟨rfl, hb2⟩
      have hb2 := hb1.trans (hb2.mono hb1.size)
      go_wp2_with fail
      refine (S1.out _).mono ?_
      rintro e w3 ⟨rfl, rfl⟩
      go_wp2_with fail
      refine (I2.out _).mono ?_
      rintro e w3 ⟨rfl, rfl⟩
      have HB := Lib.hid hb2
      clear hb1 hb2 I1 S1 I2 hs hss htt
      go_wp2_with fail
      refine (drawn.parseNameBits A n c _ hn (Bytes_below H.out HB.out)).mono ?_
      rintro e y1 ⟨t, rfl, hts, hb1⟩
      have hb1 := HB.out.trans (hb1.mono HB.out.size)
      have htm : t.size ≤ maxLen := by unfold maxLen; omega
      have I1 := Lib.hid (fun w => namq.implParse t w htm)
      have S1 := Lib.hid (fun w => namp.specParse t w htm)
      generalize namp.pbS t = u at I1 S1
      generalize namp.pbOk t = B at I1 S1
      have huu := str_ne_self u
      have hBB := bool_ne_self B
      clear HB hts htm
      go_wp2_with fail
      refine (I1.out _).mono ?_
      rintro e y2 ⟨rfl, hb2⟩
      have hb2 := hb1.trans (hb2.mono hb1.size)
      go_wp2_with fail
      refine (S1.out _).mono ?_
      rintro e y3 ⟨rfl, hb3⟩
      have HB := Lib.hid (hb2.trans (hb3.mono hb2.size))
      clear hb1 hb2 hb3 I1 S1
      go_wp2_with fail
      refine (drawn.letterCode A n c _ hn (Bytes_below H.out HB.out)).mono ?_
      rintro e y4 ⟨b, rfl, b0, b1, hb1⟩
      have HB := Lib.hid (HB.out.trans (hb1.mono HB.out.size))
      have I1 := Lib.hid (fun w => nami.letterCode b w b0 b1)
      have S1 := Lib.hid (fun w => nams.letterCode b w b0 b1)
      have L1 := Lib.hid (fun w => nami.letterOf (nam.lcV b) w)
      have C := Lib.hid (fun h => namm.code_back b0 b1 h)
      clear hb1 huu hBB
      generalize nam.lcV b = v at *
      cases hB2 : nam.lcB b
      · rw [hB2] at I1 S1
        clear C hB2
        generalize nam.loI v = x1 at *
        generalize nam.lfB v = x2 at *
        have hvv : (v != v) = false := by simp
        go_wp2_with fail
        refine (I1.out _).mono ?_
        rintro e y5 ⟨rfl, rfl⟩
        go_wp2_with fail
        refine (S1.out _).mono ?_
        rintro e y5 ⟨rfl, rfl⟩
        go_wp2_with fail
        refine (L1.out _).mono ?_
        rintro e y5 ⟨rfl, rfl⟩
        clear I1 S1 L1 hvv
        go_wp2_with fail
        refine (drawn.letterOf A n c _ hn (Bytes_below H.out HB.out)).mono ?_
        rintro e y6 ⟨m, rfl, m0, m1, hb1⟩
        have HB := Lib.hid (HB.out.trans (hb1.mono HB.out.size))
        have I1 := Lib.hid (fun w => nami.letterOf m w)
        have S1 := Lib.hid (fun w => nams.letterOf m w)
        generalize nam.loI m = x3 at *
        generalize nam.lfB m = x4 at *
        have hvv : (x3 != x3) = false := by simp
        have hbb := bool_ne_self x4
        clear hb1 m0 m1
        go_wp2_with fail
        refine (I1.out _).mono ?_
        rintro e y7 ⟨rfl, rfl⟩
        go_wp2_with fail
        refine (S1.out _).mono ?_
        rintro e y7 ⟨rfl, rfl⟩
        clear I1 S1
        go_wp2_with fail
        refine (drawn.joinNameParts A n c _ hn (Bytes_below H.out HB.out)).mono ?_
        rintro e y8 ⟨p, q, rfl, p0, p1, q0, q1, hb1⟩
        have hb1 := HB.out.trans (hb1.mono HB.out.size)
        have I1 := Lib.hid (fun w => namq.implJoin p q w (by omega) (by omega))
        have S1 := Lib.hid (fun w => namq.specJoin p q w)
        generalize namq.jnS p q = x5 at *
        generalize namq.jnB p q = x6 at *
        clear p0 p1 q0 q1 hvv hbb HB
        go_wp2_with fail
        refine (I1.out _).mono ?_
        rintro e y9 ⟨rfl, hb2⟩
        have hb2 := hb1.trans (hb2.mono hb1.size)
        go_wp2_with fail
        refine (S1.out _).mono ?_
        rintro e y10 ⟨rfl, hb3⟩
        have hb3 := hb2.trans (hb3.mono hb2.size)
        go_wp2_with fail
        go_ret
        exact ⟨by simp, hb3⟩
      · obtain ⟨c1, c2⟩ := C.out hB2
        rw [hB2] at I1 S1
        rw [c1, c2] at L1
        clear C hB2 c1 c2
        have hvv : (v != v) = false := by simp
        have hbb : (b != b) = false := by simp
        go_wp2_with fail
        refine (I1.out _).mono ?_
        rintro e y5 ⟨rfl, rfl⟩
        go_wp2_with fail
        refine (S1.out _).mono ?_
        rintro e y5 ⟨rfl, rfl⟩
        go_wp2_with fail
        refine (L1.out _).mono ?_
        rintro e y5 ⟨rfl, rfl⟩
        clear I1 S1 L1 hvv hbb
        go_wp2_with fail
        refine (drawn.letterOf A n c _ hn (Bytes_below H.out HB.out)).mono ?_
        rintro e y6 ⟨m, rfl, m0, m1, hb1⟩
        have HB := Lib.hid (HB.out.trans (hb1.mono HB.out.size))
        have I1 := Lib.hid (fun w => nami.letterOf m w)
        have S1 := Lib.hid (fun w => nams.letterOf m w)
        generalize nam.loI m = x3 at *
        generalize nam.lfB m = x4 at *
        have hvv : (x3 != x3) = false := by simp
        have hbb := bool_ne_self x4
        clear hb1 m0 m1
        go_wp2_with fail
        refine (I1.out _).mono ?_
        rintro e y7 ⟨rfl, rfl⟩
        go_wp2_with fail
        refine (S1.out _).mono ?_
        rintro e y7 ⟨rfl, rfl⟩
        clear I1 S1
        go_wp2_with fail
        refine (drawn.joinNameParts A n c _ hn (Bytes_below H.out HB.out)).mono ?_
        rintro e y8 ⟨p, q, rfl, p0, p1, q0, q1, hb1⟩
        have hb1 := HB.out.trans (hb1.mono HB.out.size)
        have I1 := Lib.hid (fun w => namq.implJoin p q w (by omega) (by omega))
        have S1 := Lib.hid (fun w => namq.specJoin p q w)
        generalize namq.jnS p q = x5 at *
        generalize namq.jnB p q = x6 at *
        clear p0 p1 q0 q1 hvv hbb HB
        go_wp2_with fail
        refine (I1.out _).mono ?_
        rintro e y9 ⟨rfl, hb2⟩
        have hb2 := hb1.trans (hb2.mono hb1.size)
        go_wp2_with fail
        refine (S1.out _).mono ?_
        rintro e y10 ⟨rfl, hb3⟩
        have hb3 := hb2.trans (hb3.mono hb2.size)
        go_wp2_with fail
        go_ret
        exact ⟨by simp, hb3⟩
    · obtain ⟨o0, o1⟩ := O.out hB
      obtain ⟨k0, k1⟩ := K.out hB
      obtain ⟨j0, j1⟩ := J.out hB
      have D := Lib.hid (D.out (Q0.out.resolve_right (by rw [o0]; decide)) (Q1.out.resolve_right (by rw [o1]; decide)))
      rw [j0, j1] at D
      rw [o0] at P0
      rw [o1] at P1
      rw [T.out hB, k0, k1] at I3
      rw [hB, T.out hB] at I1 S1
      rw [hB] at I2
      clear hB J K T O Q0 Q1 o0 o1 k0 k1 j0 j1
      generalize nam.nbA s = t at *
      generalize nam.npV s 0 = v0 at *
      generalize nam.npV s 1 = v1 at *
      have htt := str_ne_self t
      go_wp2_with fail
      refine (I1.out _).mono ?_
      rintro e w2 ⟨rfl, hb2⟩
      have hb2 := hb1.trans (hb2.mono hb1.size)
      go_wp2_with fail
      refine (S1.out _).mono ?_
      rintro e w3 ⟨rfl, rfl⟩
      go_wp2_with fail
      refine (I2.out _).mono ?_
      rintro e w3 ⟨rfl, rfl⟩
      go_wp2_with fail
      refine (I3.out _).mono ?_
      rintro e w3 ⟨rfl, hb3⟩
      have hb3 := hb2.trans (hb3.mono hb2.size)
      go_wp2_with fail
      refine (P0.out _).mono ?_
      rintro e w4 ⟨rfl, hb4⟩
      have hb4 := hb3.trans (hb4.mono hb3.size)
      go_wp2_with fail
      refine (P1.out _).mono ?_
      rintro e w5 ⟨rfl, hb5⟩
      have hb5 := hb4.trans (hb5.mono hb4.size)
      go_wp2_with fail
      refine (D.out _).mono ?_
      rintro e w6 ⟨rfl, hb6⟩
      have HB := Lib.hid (hb5.trans (hb6.mono hb5.size))
      clear hb1 hb2 hb3 hb4 hb5 hb6 I1 S1 I2 I3 P0 P1 D hs hss htt
      go_wp2_with fail
      refine (drawn.parseNameBits A n c _ hn (Bytes_below H.out HB.out)).mono ?_
      rintro e y1 ⟨t, rfl, hts, hb1⟩
      have hb1 := HB.out.trans (hb1.mono HB.out.size)
      have htm : t.size ≤ maxLen := by unfold maxLen; omega
      have I1 := Lib.hid (fun w => namq.implParse t w htm)
      have S1 := Lib.hid (fun w => namp.specParse t w htm)
      generalize namp.pbS t = u at I1 S1
      generalize namp.pbOk t = B at I1 S1
      have huu := str_ne_self u
      have hBB := bool_ne_self B
      clear HB hts htm
      go_wp2_with fail
      refine (I1.out _).mono ?_
      rintro e y2 ⟨rfl, hb2⟩
      have hb2 := hb1.trans (hb2.mono hb1.size)
      go_wp2_with fail
      refine (S1.out _).mono ?_
      rintro e y3 ⟨rfl, hb3⟩
      have HB := Lib.hid (hb2.trans (hb3.mono hb2.size))
      clear hb1 hb2 hb3 I1 S1
      go_wp2_with fail
      refine (drawn.letterCode A n c _ hn (Bytes_below H.out HB.out)).mono ?_
      rintro e y4 ⟨b, rfl, b0, b1, hb1⟩
      have HB := Lib.hid (HB.out.trans (hb1.mono HB.out.size))
      have I1 := Lib.hid (fun w => nami.letterCode b w b0 b1)
      have S1 := Lib.hid (fun w => nams.letterCode b w b0 b1)
      have L1 := Lib.hid (fun w => nami.letterOf (nam.lcV b) w)
      have C := Lib.hid (fun h => namm.code_back b0 b1 h)
      clear hb1 huu hBB
      generalize nam.lcV b = v at *
      cases hB2 : nam.lcB b
      · rw [hB2] at I1 S1
        clear C hB2
        generalize nam.loI v = x1 at *
        generalize nam.lfB v = x2 at *
        have hvv : (v != v) = false := by simp
        go_wp2_with fail
        refine (I1.out _).mono ?_
        rintro e y5 ⟨rfl, rfl⟩
        go_wp2_with fail
        refine (S1.out _).mono ?_
        rintro e y5 ⟨rfl, rfl⟩
        go_wp2_with fail
        refine (L1.out _).mono ?_
        rintro e y5 ⟨rfl, rfl⟩
        clear I1 S1 L1 hvv
        go_wp2_with fail
        refine (drawn.letterOf A n c _ hn (Bytes_below H.out HB.out)).mono ?_
        rintro e y6 ⟨m, rfl, m0, m1, hb1⟩
        have HB := Lib.hid (HB.out.trans (hb1.mono HB.out.size))
        have I1 := Lib.hid (fun w => nami.letterOf m w)
        have S1 := Lib.hid (fun w => nams.letterOf m w)
        generalize nam.loI m = x3 at *
        generalize nam.lfB m = x4 at *
        have hvv : (x3 != x3) = false := by simp
        have hbb := bool_ne_self x4
        clear hb1 m0 m1
        go_wp2_with fail
        refine (I1.out _).mono ?_
        rintro e y7 ⟨rfl, rfl⟩
        go_wp2_with fail
        refine (S1.out _).mono ?_
        rintro e y7 ⟨rfl, rfl⟩
        clear I1 S1
        go_wp2_with fail
        refine (drawn.joinNameParts A n c _ hn (Bytes_below H.out HB.out)).mono ?_
        rintro e y8 ⟨p, q, rfl, p0, p1, q0, q1, hb1⟩
        have hb1 := HB.out.trans (hb1.mono HB.out.size)
        have I1 := Lib.hid (fun w => namq.implJoin p q w (by omega) (by omega))
        have S1 := Lib.hid (fun w => namq.specJoin p q w)
        generalize namq.jnS p q = x5 at *
        generalize namq.jnB p q = x6 at *
        clear p0 p1 q0 q1 hvv hbb HB
        go_wp2_with fail
        refine (I1.out _).mono ?_
        rintro e y9 ⟨rfl, hb2⟩
        have hb2 := hb1.trans (hb2.mono hb1.size)
        go_wp2_with fail
        refine (S1.out _).mono ?_
        rintro e y10 ⟨rfl, hb3⟩
        have hb3 := hb2.trans (hb3.mono hb2.size)
        go_wp2_with fail
        go_ret
        exact ⟨by simp, hb3⟩
      · obtain ⟨c1, c2⟩ := C.out hB2
        rw [hB2] at I1 S1
        rw [c1, c2] at L1
        clear C hB2 c1 c2
        have hvv : (v != v) = false := by simp
        have hbb : (b != b) = false := by simp
        go_wp2_with fail
        refine (I1.out _).mono ?_
        rintro e y5 ⟨rfl, rfl⟩
        go_wp2_with fail
        refine (S1.out _).mono ?_
        rintro e y5 ⟨rfl, rfl⟩
        go_wp2_with fail
        refine (L1.out _).mono ?_
        rintro e y5 ⟨rfl, rfl⟩
        clear I1 S1 L1 hvv hbb
        go_wp2_with fail
        refine (drawn.letterOf A n c _ hn (Bytes_below H.out HB.out)).mono ?_
        rintro e y6 ⟨m, rfl, m0, m1, hb1⟩
        have HB := Lib.hid (HB.out.trans (hb1.mono HB.out.size))
        have I1 := Lib.hid (fun w => nami.letterOf m w)
        have S1 := Lib.hid (fun w => nams.letterOf m w)
        generalize nam.loI m = x3 at *
        generalize nam.lfB m = x4 at *
        have hvv : (x3 != x3) = false := by simp
        have hbb := bool_ne_self x4
        clear hb1 m0 m1
        go_wp2_with fail
        refine (I1.out _).mono ?_
        rintro e y7 ⟨rfl, rfl⟩
        go_wp2_with fail
        refine (S1.out _).mono ?_
        rintro e y7 ⟨rfl, rfl⟩
        clear I1 S1
        go_wp2_with fail
        refine (drawn.joinNameParts A n c _ hn (Bytes_below H.out HB.out)).mono ?_
        rintro e y8 ⟨p, q, rfl, p0, p1, q0, q1, hb1⟩
        have hb1 := HB.out.trans (hb1.mono HB.out.size)
        have I1 := Lib.hid (fun w => namq.implJoin p q w (by omega) (by omega))
        have S1 := Lib.hid (fun w => namq.specJoin p q w)
        generalize namq.jnS p q = x5 at *
        generalize namq.jnB p q = x6 at *
        clear p0 p1 q0 q1 hvv hbb HB
        go_wp2_with fail
        refine (I1.out _).mono ?_
        rintro e y9 ⟨rfl, hb2⟩
        have hb2 := hb1.trans (hb2.mono hb1.size)
        go_wp2_with fail
        refine (S1.out _).mono ?_
        rintro e y10 ⟨rfl, hb3⟩
        have hb3 := hb2.trans (hb3.mono hb2.size)
        go_wp2_with fail
        go_ret
        exact ⟨by simp, hb3⟩

theorem own : ownKnob Tryd.prog.godebug = none := by kernel_rfl
theorem laidOut : laidOutB Tryd.prog = true := by kernel_rfl


set_option maxRecDepth 100000 in
theorem contract (H : Type) (enc : TypeId × Value → H) (W : World) (base : Nat) (args : Array Value) (ds gs : List (DataW H)) (before : List MemPlace)
    (hval : ∀ (j : Nat) t v, Tryd.f3.params[j]? = some t → args[j]? = some v → Value.okWide Tryd.prog W .any base t v)
    (hW : DataW.Whole enc Tryd.prog Tryd.f3.params.toList Rows.fnFlightNamesSpec.vars false W args.toList ds gs before) (hL : laidMetH Tryd.prog Rows.fnFlightNamesRow.laid W) :
    Calls Tryd.prog 3 args W fun e W' => ∃ v, e = .returned v ∧ Rows.fnFlightNamesSpec.post enc Tryd.prog Tryd.f3 false true false false W args v W' := by
  have hW' := hW
  obtain ⟨p, q, hA0, hV, rfl, hfz, hnd⟩ := hW
  have hA : DataW.TrodAll enc Tryd.prog W 0 (fun _ => true) true Tryd.f3.params.toList args.toList ds p := hA0
  rw [Tryd.params3] at hA hval
  obtain ⟨v0, vs0, d0, ds0, p0, q0, hargs, rfl, rfl, h0, r0⟩ := trodAll_cons hA
  obtain ⟨rfl, rfl, rfl⟩ := trodAll_nil r0
  obtain rfl : args = #[v0] := by cases args; simp_all
  obtain ⟨rfl, rfl⟩ := trodVars_none hV
  obtain ⟨a0, len0, cap0, rfl⟩ := okWide_slice Tryd.underlying22 (hval 0 22 v0 rfl rfl)
  have k0 := h0
  have lt0 : ∀ x ∈ p0, x.block < W.heap.size := by obtain ⟨m, hm⟩ := k0; exact DataW.trod_lt m _ _ _ hm
  obtain ⟨z0, w0⟩ : ∃ zs, IsRow .u8 W a0 len0 cap0 zs := by
    obtain ⟨fuel, hf⟩ := h0
    rcases open_ints Tryd.underlying22 Tryd.underlying5 (by kernel_rfl) hf with ⟨hcs, _⟩ | ⟨x, l, c, zs, hcs, _, hl, hm, hz, _, hcell, hwz⟩
    · simp [Value.cells] at hcs
      obtain ⟨rfl, rfl, rfl⟩ := hcs
      exact ⟨[], .inl ⟨rfl, rfl, rfl, rfl⟩⟩
    · simp [Value.cells] at hcs
      obtain ⟨rfl, rfl, rfl⟩ := hcs
      exact ⟨zs, .inr ⟨_, rfl, hl, hm, by simpa using hz, hcell, hwz⟩⟩
  clear hA0
  refine (walk a0 len0 cap0 z0 W w0).mono fun e W' ⟨he, bel⟩ => ?_
  subst he
  exact ⟨_, rfl, _, _, _, [], _, [], hW', trodAll_mk1 (shut_bool Tryd.underlying4 _), (trodAll_cons_mk (Below.trod laidOut (by kernel_rfl) (of_decide_eq_true (by kernel_rfl)) k0 bel lt0) trodAll_mk0), rfl, bel.frame _, fun h => by cases h⟩

noncomputable def laidWorld (os : Os) : World :=
  { World.holding Tryd.prog os ⟨#[], #[], []⟩ with heap := (((World.holding Tryd.prog os ⟨#[], #[], []⟩).heap.modify 3 fun
      | .cells _ t frozen => .cells #[.int .u8 128, .int .u8 191, .int .u8 160, .int .u8 191, .int .u8 128, .int .u8 159, .int .u8 144, .int .u8 191, .int .u8 128, .int .u8 143, .int .u8 0, .int .u8 0, .int .u8 0, .int .u8 0, .int .u8 0, .int .u8 0, .int .u8 0, .int .u8 0, .int .u8 0, .int .u8 0, .int .u8 0, .int .u8 0, .int .u8 0, .int .u8 0, .int .u8 0, .int .u8 0, .int .u8 0, .int .u8 0, .int .u8 0, .int .u8 0, .int .u8 0, .int .u8 0] t frozen
      | o => o).modify 2 fun
      | .cells _ t frozen => .cells (Go.Pinned.utf8FirstZ.map fun (n : Nat) => Value.int .u8 (n : Int)).toArray t frozen
      | o => o) }
theorem laid_met (os : Os) : laidMet Tryd.prog Rows.fnFlightNamesRow.laid ((laidWorld os).forCall (fun _ _ => 0) ⟨#[], #[.slice none 0 0], []⟩).memory :=
  laidMet_of_run' 8 (by kernel_rfl) (by kernel_rfl)
theorem reads (os : Os) {H : Type} (enc : TypeId × Value → H) : ∃ places, DataW.whole enc Tryd.prog ((laidWorld os).forCall (fun _ _ => 0) ⟨#[], #[.slice none 0 0], []⟩).memory Tryd.f3.params.toList Rows.fnFlightNamesSpec.vars false (#[.slice none 0 0] : Array Value).toList 8 = some ([.nil], [], places) :=
  ⟨[], by kernel_rfl⟩

set_option maxRecDepth 100000 in
theorem lifted (os : Os) (started : os.Started) (H : Type) (enc : TypeId × Value → H) (F : Stop.Interp) :
    ReturnsInHanded {} Tryd.checked os 3 .any ((OpenSpec.ofChange Rows.fnFlightNamesSpec).preRow enc Tryd.prog Tryd.f3 Rows.fnFlightNamesRow.domain false Rows.fnFlightNamesRow.laid) (((OpenSpec.ofChange Rows.fnFlightNamesSpec).at F).post enc Tryd.prog Tryd.f3 false true false false) := by
  obtain ⟨places, hx⟩ := reads os enc
  refine returnsInHanded_of_row (C := Tryd.checked) (s := OpenSpec.ofChange Rows.fnFlightNamesSpec) own started (by kernel_rfl) Tryd.func3
    (witness_row_at (enc := enc) (C := Tryd.checked) false (laidWorld os) #[.slice none 0 0] rfl (by kernel_rfl) (by kernel_rfl) (by kernel_rfl)
      (OpenSpec.preRow_of_cond 8 hx (by kernel_rfl) (fun k hk => by cases hk) (by kernel_rfl) (laid_met os))) ?_
  intro W base args ds gs before hval hW _ _ _ hL _ _
  exact contract H enc W base args ds gs before hval hW hL

theorem said : Rows.FnFlightNamesSaid :=
  OpenClaim.holds_of_cond 3 Tryd.f3 rfl rfl rfl rfl rfl rfl rfl ⟨rfl, rfl, rfl, rfl, rfl⟩ rfl rfl rfl rfl rfl (by kernel_rfl) Tryd.func3 (by kernel_rfl)
    (of_decide_eq_true (by kernel_rfl)) (by unfold Func.isWrapper; first | (rw [if_pos (by decide +kernel)]; kernel_rfl) | (rw [if_neg (by decide +kernel)]; exact ⟨rfl, rfl⟩))
    (fun os started H enc _ F => by rw [OpenClaim.pre_eq_preRow]; exact lifted os started H enc F)

theorem plain (f : FuncId) (fn : Func) (hf : Tryd.pinned.checked.prog.funcNamed "loop.example/g00875/laws.FnFlightNames" = some f) (hfn : Tryd.pinned.checked.prog.funcs[f]? = some fn) :
    false = Tryd.pinned.checked.prog.looks [] ∧ ∀ (j : Nat) t, fn.params[j]? = some t → Tryd.pinned.checked.prog.wantsStandIn t = false := by
  obtain rfl : f = 3 := Option.some.inj ((show Tryd.prog.funcNamed "loop.example/g00875/laws.FnFlightNames" = some 3 by kernel_rfl).symm.trans hf) |>.symm
  obtain rfl : fn = Tryd.f3 := (Option.some.inj (Tryd.func3.symm.trans hfn)).symm
  refine ⟨by kernel_rfl, fun j t ht => ?_⟩
  rw [Tryd.params3] at ht
  have hm := Array.mem_of_getElem? ht
  simp at hm
  obtain rfl := hm
  exact (show Tryd.prog.wantsStandIn 22 = false by kernel_rfl)

theorem proved : Rows.FnFlightNamesCardSaid :=
  Claim7.holds_tied_plain_at .later [] _ _ _ _ said (fun _ h => by cases h) (by kernel_rfl) (fun _ h => by cases h) fnFlightNames_row_tie rfl ⟨rfl, rfl⟩ (by kernel_rfl) rfl plain (by kernel_rfl)
#print axioms proved
end Go.Proofs.YtjfhkbpkiblkmaaDoor.fnFlightNames
