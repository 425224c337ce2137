/- For every code of at most 65536 bytes (and trivially for a longer one) the law FnFlips returns true: what it draws are short strings and an index, whatever the bytes are; a bit turned twice is as it was, and the exclusive or, answered as the model answers, is undone by itself and counts the differences. No condition of mine. -/
import Derived.Test.YthamflifmpideaaRows
import Derived.Test.YthamflifmpideaaDrawB
import Derived.Test.YthamflifmpideaaBitsM
import Derived.Test.YthamflifmpideaaCode
import Derived.WalkKit
import Derived.ProofKit
import Derived.OpenShut
import Derived.ShutString
import Derived.ChangeOld
import Derived.Below
namespace Go.Proofs.Ythamflifmpideaa.fnFlips
open Go.ChangeShapes Go.WideShapes Go.ChangeAt Go.RowKit
open Go.ChangeMaps (open_string shut_string)
open Go.Proofs.Ythamflifmpideaa.code_ Go.Proofs.Ythamflifmpideaa.cur
set_option linter.unusedVariables false

theorem bool_ne_self (b : Bool) : (b != b) = false := by simp
theorem str_ne_self (x : ByteArray) : (!(x.toList == x.toList)) = false := by simp

set_option maxRecDepth 100000 in
set_option maxHeartbeats 4000000 in
theorem walk (A : Option Addr) (n c : Nat) (z : List Int) (w : World) (w0 : IsRow .u8 w A n c z) :
    Calls Try.prog 4 #[.slice A n c] w fun e w' => e = .returned (.bool true) ∧ Below w.heap.size w w' := by
  obtain ⟨hby, hnc, -⟩ := bytes_of w0
  clear w0
  by_cases hbig : (65536 : Int) < (n : Int)
  · have hv := Lib.hid (fun w => vBig A n c w)
    clear hby
    go_enter Try.func4, Try.ntmps4
    go_wp2_with fail
    refine (hv.out _).mono ?_
    rintro e w1 ⟨rfl, rfl⟩
    go_wp2_with fail
    go_ret
    exact ⟨rfl, Below.refl _ _⟩
  · have hd : decide ((65536 : Int) < (n : Int)) = false := by simpa using hbig
    have hn : n ≤ 65536 := by omega
    have hv := Lib.hid (fun w => vBig A n c w)
    have H := Lib.hid hby
    clear hby hbig
    go_enter Try.func4, Try.ntmps4
    go_wp2_with fail
    refine (hv.out _).mono ?_
    rintro e w1 ⟨rfl, rfl⟩
    go_wp2_with fail
    refine (drawb.flipBit A n c _ hn H.out).mono ?_
    rintro e w1 ⟨s, i, rfl, hs, i0, i1, hb1⟩
    have HI := Lib.hid (fun w => bitsi.flipBit s i w)
    have HS := Lib.hid (fun w => bitss.flipBit s i w (by unfold maxLen; omega))
    have HB := Lib.hid (fun h => bitsm.flip_back (s := s) (i := i) h)
    clear hs i0 i1
    cases hB : bitsi.flipB s i
    · rw [hB] at HI HS
      have hTT := str_ne_self (bitsi.flipV s i)
      clear HB hB
      generalize bitsi.flipV s i = T at *
      go_wp2_with fail
      refine (HI.out _).mono ?_
      rintro e w2 ⟨rfl, hb2⟩
      have hb2 := hb1.trans (hb2.mono hb1.size)
      go_wp2_with fail
      refine (HS.out _).mono ?_
      rintro e w3 ⟨rfl, hb3⟩
      have HB3 := Lib.hid (hb2.trans (hb3.mono hb2.size))
      clear hb1 hb2 hb3 HI HS
      go_wp2_with fail
      refine (drawb.xorBits A n c _ hn (Bytes_below H.out HB3.out)).mono ?_
      rintro e w4 ⟨a, b, rfl, ha, hb, hb4⟩
      have hb4 := HB3.out.trans (hb4.mono HB3.out.size)
      have XI := Lib.hid (fun w => bitsi.xorBits a b w)
      have XS := Lib.hid (fun w => bitss.xorBits a b w (by unfold maxLen; omega) (by unfold maxLen; omega))
      have XB := Lib.hid (fun h => bitsm.xor_back (a := a) (b := b) h)
      clear ha hb HB3
      cases hX : bitsi.xorB a b
      · rw [hX] at XI XS
        have hXT := str_ne_self (bitsi.xorT a b)
        clear XB hX
        generalize bitsi.xorT a b = X at *
        go_wp2_with fail
        refine (XI.out _).mono ?_
        rintro e w5 ⟨rfl, hb5⟩
        have hb5 := hb4.trans (hb5.mono hb4.size)
        go_wp2_with fail
        refine (XS.out _).mono ?_
        rintro e w6 ⟨rfl, hb6⟩
        have hb6 := hb5.trans (hb6.mono hb5.size)
        clear hb4 hb5
        go_wp2_with fail
        go_ret
        exact ⟨rfl, hb6⟩
      · obtain ⟨X, k1, k2, k3, k4, k5, k6, cc, k7, k8, k9⟩ := XB.out hX
        have YI := Lib.hid (fun w => bitsi.xorBits X b w)
        have CA := Lib.hid (fun w => bitsi.countOnes a w)
        have CB := Lib.hid (fun w => bitsi.countOnes b w)
        have CX := Lib.hid (fun w => bitsi.countOnes X w)
        rw [hX, k1] at XI XS
        rw [k2, k3] at YI
        rw [k4] at CA
        rw [k5] at CB
        rw [k6] at CX
        clear k1 k2 k3 k4 k5 k6 XB hX
        generalize bitsi.onesV a = p at *
        generalize bitsi.onesV b = q at *
        generalize bitsi.onesV X = r at *
        have hXT := str_ne_self X
        have haa : (a.toList == a.toList) = true := by simp
        have m1 : (p : Int) ≤ 64 := by omega
        have m2 : (q : Int) ≤ 64 := by omega
        have m3 : (r : Int) ≤ (p : Int) + (q : Int) := by omega
        have m4 : decide ((r : Int) ≤ (p : Int) + (q : Int)) = true := decide_eq_true m3
        have m5 : r ≤ p + q := by omega
        have m6 : decide (r ≤ p + q) = true := decide_eq_true m5
        have m7 : ((p : Int) + (q : Int) - (r : Int)).tmod 2 = 0 := by rw [Int.tmod_eq_emod_of_nonneg (by omega)]; omega
        have m8 : ((p : Int) + (q : Int) - (r : Int)) % 2 = 0 := by omega
        have m9 : IntKind.i64.wrap ((p : Int) + (q : Int)) = (p : Int) + (q : Int) := IntWalk.i64_in _ (by omega)
        have m10 : IntKind.i64.wrap ((p : Int) + (q : Int) - (r : Int)) = (p : Int) + (q : Int) - (r : Int) := IntWalk.i64_in _ (by omega)
        clear k7 k8 k9
        go_wp2_with fail
        refine (XI.out _).mono ?_
        rintro e w5 ⟨rfl, hb5⟩
        have hb5 := hb4.trans (hb5.mono hb4.size)
        go_wp2_with fail
        refine (XS.out _).mono ?_
        rintro e w6 ⟨rfl, hb6⟩
        have hb6 := hb5.trans (hb6.mono hb5.size)
        go_wp2_with fail
        refine (YI.out _).mono ?_
        rintro e w7 ⟨rfl, hb7⟩
        have hb7 := hb6.trans (hb7.mono hb6.size)
        have HB7 := Lib.hid hb7
        clear hb4 hb5 hb6 hb7
        go_wp2_with fail
        refine (CA.out _).mono ?_
        rintro e w8 ⟨rfl, rfl⟩
        go_wp2_with fail
        refine (CB.out _).mono ?_
        rintro e w8 ⟨rfl, rfl⟩
        go_wp2_with fail
        refine (CX.out _).mono ?_
        rintro e w8 ⟨rfl, rfl⟩
        go_wp2_with fail
        go_ret
        exact ⟨rfl, HB7.out⟩
    · obtain ⟨t, x, k1, k2, k3, k4, k5, k6, k7, k8, k9⟩ := HB.out hB
      have hin : 0 ≤ i ∧ i < (s.size : Int) := by
        unfold bitsi.flipB at hB
        rw [Bool.and_eq_true, decide_eq_true_eq] at hB
        exact hB.2
      obtain ⟨k, rfl⟩ := Int.eq_ofNat_of_zero_le hin.1
      have hkx : (k : Int) < (x.size : Int) := by omega
      have hkn : k < x.size := by omega
      have g1 : (((x[k]'hkn).toNat : Int) != 49) = false := by
        have := k9 hkn
        simp only [Int.toNat_natCast] at this
        rw [this]
        rfl
      have BI := Lib.hid (fun w => bitsi.flipBit t k w)
      have EI := Lib.hid (fun w => bitsi.xorBits s t w)
      have CI := Lib.hid (fun w => bitsi.countOnes x w)
      rw [hB, k1] at HI HS
      rw [k2, k3] at BI
      rw [k4, k5] at EI
      rw [k6, k7] at CI
      have CJ := Lib.hid (show ∀ w : World, Calls Try.prog 34 #[.string x] w fun e w' => e = .returned (.tuple #[.int .i64 1, .bool true]) ∧ w = w' from CI.out)
      have hTT := str_ne_self t
      have hss := str_ne_self s
      clear HB hB k1 k2 k3 k4 k5 k6 k7 k8 k9 hin CI
      go_wp2_with fail
      refine (HI.out _).mono ?_
      rintro e w2 ⟨rfl, hb2⟩
      have hb2 := hb1.trans (hb2.mono hb1.size)
      go_wp2_with fail
      refine (HS.out _).mono ?_
      rintro e w3 ⟨rfl, hb3⟩
      have hb3 := hb2.trans (hb3.mono hb2.size)
      go_wp2_with fail
      refine (BI.out _).mono ?_
      rintro e w31 ⟨rfl, hb31⟩
      have hb31 := hb3.trans (hb31.mono hb3.size)
      go_wp2_with fail
      refine (EI.out _).mono ?_
      rintro e w32 ⟨rfl, hb32⟩
      have HB3 := Lib.hid (hb31.trans (hb32.mono hb31.size))
      clear hb1 hb2 hb3 hb31 hb32 HI HS
      go_wp2_with fail
      refine (CJ.out _).mono ?_
      rintro e w33 ⟨rfl, rfl⟩
      go_wp2_with fail
      refine (drawb.xorBits A n c _ hn (Bytes_below H.out HB3.out)).mono ?_
      rintro e w4 ⟨a, b, rfl, ha, hb, hb4⟩
      have hb4 := HB3.out.trans (hb4.mono HB3.out.size)
      have XI := Lib.hid (fun w => bitsi.xorBits a b w)
      have XS := Lib.hid (fun w => bitss.xorBits a b w (by unfold maxLen; omega) (by unfold maxLen; omega))
      have XB := Lib.hid (fun h => bitsm.xor_back (a := a) (b := b) h)
      clear ha hb HB3
      cases hX : bitsi.xorB a b
      · rw [hX] at XI XS
        have hXT := str_ne_self (bitsi.xorT a b)
        clear XB hX
        generalize bitsi.xorT a b = X at *
        go_wp2_with fail
        refine (XI.out _).mono ?_
        rintro e w5 ⟨rfl, hb5⟩
        have hb5 := hb4.trans (hb5.mono hb4.size)
        go_wp2_with fail
        refine (XS.out _).mono ?_
        rintro e w6 ⟨rfl, hb6⟩
        have hb6 := hb5.trans (hb6.mono hb5.size)
        clear hb4 hb5
        go_wp2_with fail
        go_ret
        exact ⟨rfl, hb6⟩
      · obtain ⟨X, k1, k2, k3, k4, k5, k6, cc, k7, k8, k9⟩ := XB.out hX
        have YI := Lib.hid (fun w => bitsi.xorBits X b w)
        have CA := Lib.hid (fun w => bitsi.countOnes a w)
        have CB := Lib.hid (fun w => bitsi.countOnes b w)
        have CX := Lib.hid (fun w => bitsi.countOnes X w)
        rw [hX, k1] at XI XS
        rw [k2, k3] at YI
        rw [k4] at CA
        rw [k5] at CB
        rw [k6] at CX
        clear k1 k2 k3 k4 k5 k6 XB hX
        generalize bitsi.onesV a = p at *
        generalize bitsi.onesV b = q at *
        generalize bitsi.onesV X = r at *
        have hXT := str_ne_self X
        have haa : (a.toList == a.toList) = true := by simp
        have m1 : (p : Int) ≤ 64 := by omega
        have m2 : (q : Int) ≤ 64 := by omega
        have m3 : (r : Int) ≤ (p : Int) + (q : Int) := by omega
        have m4 : decide ((r : Int) ≤ (p : Int) + (q : Int)) = true := decide_eq_true m3
        have m5 : r ≤ p + q := by omega
        have m6 : decide (r ≤ p + q) = true := decide_eq_true m5
        have m7 : ((p : Int) + (q : Int) - (r : Int)).tmod 2 = 0 := by rw [Int.tmod_eq_emod_of_nonneg (by omega)]; omega
        have m8 : ((p : Int) + (q : Int) - (r : Int)) % 2 = 0 := by omega
        have m9 : IntKind.i64.wrap ((p : Int) + (q : Int)) = (p : Int) + (q : Int) := IntWalk.i64_in _ (by omega)
        have m10 : IntKind.i64.wrap ((p : Int) + (q : Int) - (r : Int)) = (p : Int) + (q : Int) - (r : Int) := IntWalk.i64_in _ (by omega)
        clear k7 k8 k9
        go_wp2_with fail
        refine (XI.out _).mono ?_
        rintro e w5 ⟨rfl, hb5⟩
        have hb5 := hb4.trans (hb5.mono hb4.size)
        go_wp2_with fail
        refine (XS.out _).mono ?_
        rintro e w6 ⟨rfl, hb6⟩
        have hb6 := hb5.trans (hb6.mono hb5.size)
        go_wp2_with fail
        refine (YI.out _).mono ?_
        rintro e w7 ⟨rfl, hb7⟩
        have hb7 := hb6.trans (hb7.mono hb6.size)
        have HB7 := Lib.hid hb7
        clear hb4 hb5 hb6 hb7
        go_wp2_with fail
        refine (CA.out _).mono ?_
        rintro e w8 ⟨rfl, rfl⟩
        go_wp2_with fail
        refine (CB.out _).mono ?_
        rintro e w8 ⟨rfl, rfl⟩
        go_wp2_with fail
        refine (CX.out _).mono ?_
        rintro e w8 ⟨rfl, rfl⟩
        go_wp2_with fail
        go_ret
        exact ⟨rfl, HB7.out⟩

theorem own : ownKnob Try.prog.godebug = none := by kernel_rfl
theorem laidOut : laidOutB Try.prog = true := by kernel_rfl

set_option maxRecDepth 100000 in
theorem lifted (os : Os) (started : os.Started) (H : Type) (enc : TypeId × Value → H) :
    ReturnsInHanded {} Try.checked os 4 .any (Rows.fnFlipsSpec.pre6 enc Try.prog Try.f4 Rows.fnFlipsRow.domain false) (Rows.fnFlipsSpec.post enc Try.prog Try.f4 false true false false) := by
  refine returnsInHanded_of_change (C := Try.checked) own started (by kernel_rfl) Try.func4
    (ChangeSpec.witness6 (enc := enc) (C := Try.checked) false ⟨#[], #[.slice none 0 0], []⟩ 8 (by kernel_rfl) (by kernel_rfl) (by kernel_rfl) (by kernel_rfl)) ?_
  intro W base args ds gs before hval0 hW hcnd _
  have hval : ∀ (j : Nat) t v, Try.f4.params[j]? = some t → args[j]? = some v → Value.okWide Try.prog W .any base t v := hval0
  have hW' := hW
  obtain ⟨p, q, hA0, hV, rfl, hfz, hnd⟩ := hW
  have hA : DataW.TrodAll enc Try.prog W 0 (fun _ => true) true Try.f4.params.toList args.toList ds p := hA0
  rw [Try.params4] at hA hval
  obtain ⟨v0, vs0, d0, ds0, p0, q0, hargs, rfl, rfl, h0, r0⟩ := trodAll_cons hA
  obtain ⟨rfl, rfl, rfl⟩ := trodAll_nil r0
  obtain rfl : args = #[v0] := by cases args; simp_all
  obtain ⟨rfl, rfl⟩ := trodVars_none hV
  obtain ⟨a0, len0, cap0, rfl⟩ := okWide_slice Try.underlying22 (hval 0 22 v0 rfl rfl)
  have k0 := h0
  have lt0 : ∀ x ∈ p0, x.block < W.heap.size := by obtain ⟨m, hm⟩ := k0; exact DataW.trod_lt m _ _ _ hm
  obtain ⟨z0, w0⟩ : ∃ zs, IsRow .u8 W a0 len0 cap0 zs := by
    obtain ⟨fuel, hf⟩ := h0
    rcases open_ints Try.underlying22 Try.underlying5 (by kernel_rfl) hf with ⟨hcs, _⟩ | ⟨x, l, c, zs, hcs, _, hl, hm, hz, _, hcell, hwz⟩
    · simp [Value.cells] at hcs
      obtain ⟨rfl, rfl, rfl⟩ := hcs
      exact ⟨[], .inl ⟨rfl, rfl, rfl, rfl⟩⟩
    · simp [Value.cells] at hcs
      obtain ⟨rfl, rfl, rfl⟩ := hcs
      exact ⟨zs, .inr ⟨_, rfl, hl, hm, by simpa using hz, hcell, hwz⟩⟩
  clear hA0 hval0
  refine (walk a0 len0 cap0 z0 W w0).mono fun e W' ⟨he, bel⟩ => ?_
  subst he
  exact ⟨_, rfl, _, _, _, [], _, [], hW', trodAll_mk1 (shut_bool Try.underlying4 _), (trodAll_cons_mk (Below.trod laidOut (by kernel_rfl) (of_decide_eq_true (by kernel_rfl)) k0 bel lt0) trodAll_mk0), rfl, bel.frame _, fun h => by cases h⟩

theorem over : Rows.fnFlipsRow.holds Try.pinned (OpenSpec.ofChange Rows.fnFlipsSpec) :=
  OpenClaim.holds_of_wide 4 Try.f4 rfl rfl rfl rfl rfl rfl rfl ⟨rfl, rfl, rfl, rfl, rfl⟩ rfl rfl rfl rfl rfl (by kernel_rfl) Try.func4 (by kernel_rfl)
    (of_decide_eq_true (by kernel_rfl)) (by unfold Func.isWrapper; first | (rw [if_pos (by decide +kernel)]; kernel_rfl) | (rw [if_neg (by decide +kernel)]; exact ⟨rfl, rfl⟩))
    (fun os started H enc _ => lifted os started H enc)

theorem proved : Rows.FnFlipsSaid :=
  over
#print axioms proved
end Go.Proofs.Ythamflifmpideaa.fnFlips
