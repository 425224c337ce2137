/- For every code of at most 65536 bytes (and trivially for a longer one) the law FnBits returns true: what it draws are numbers in range and short strings, whatever the bytes are; numbers, hex texts and fields are answered as the model answers, and recovered. No condition of mine. -/
import Derived.Test.YthamflifmpideaaRows
import Derived.Test.YthamflifmpideaaDrawB
import Derived.Test.YthamflifmpideaaBitsM
import Derived.Test.YthamflifmpideaaCode
import Derived.WalkKit
import Derived.ProofKit
import Derived.OpenShut
import Derived.ShutString
import Derived.ChangeOld
import Derived.Below
import Derived.Deep.DeepCutAuto
namespace Go.Proofs.Ythamflifmpideaa.fnBits
open Go.ChangeShapes Go.WideShapes Go.ChangeAt Go.RowKit
open Go.ChangeMaps (open_string shut_string)
open Go.Proofs.Ythamflifmpideaa.code_ Go.Proofs.Ythamflifmpideaa.cur
set_option linter.unusedVariables false

theorem bool_ne_self (b : Bool) : (b != b) = false := by simp
theorem str_ne_self (x : ByteArray) : (!(x.toList == x.toList)) = false := by simp

set_option maxRecDepth 100000 in
set_option maxHeartbeats 4000000 in
theorem walk (A : Option Addr) (n c : Nat) (z : List Int) (w : World) (w0 : IsRow .u8 w A n c z) :
    Calls Try.prog 3 #[.slice A n c] w fun e w' => e = .returned (.bool true) ∧ Below w.heap.size w w' := by
  obtain ⟨hby, hnc, -⟩ := bytes_of w0
  clear w0
  by_cases hbig : (65536 : Int) < (n : Int)
  · have hv := Lib.hid (fun w => vBig A n c w)
    clear hby
    go_enter Try.func3, Try.ntmps3
    go_wp2_with fail
    refine (hv.out _).mono ?_
    rintro e w1 ⟨rfl, rfl⟩
    go_wp2_with fail
    go_ret
    exact ⟨rfl, Below.refl _ _⟩
  · have hd : decide ((65536 : Int) < (n : Int)) = false := by simpa using hbig
    have hn : n ≤ 65536 := by omega
    have hv := Lib.hid (fun w => vBig A n c w)
    have H := Lib.hid hby
    clear hby hbig
    go_enter Try.func3, Try.ntmps3
    go_wp2_with fail
    refine (hv.out _).mono ?_
    rintro e w1 ⟨rfl, rfl⟩
    go_wp2_with fail
    refine (drawb.bitsOf A n c _ hn H.out).mono ?_
    rintro e w1 ⟨x, y, rfl, x0, x1, y0, y1, hb1⟩
    have HI := Lib.hid (fun w => bitsi.bitsOf x y w (by omega))
    have HS := Lib.hid (fun w => bitss.bitsOf x y w (by omega))
    have HN := Lib.hid (fun w => bitsi.numberOf (bitsi.bofT x y) w)
    have HB := Lib.hid (fun h => bitsm.of_back (n := x) (m := y) h)
    generalize bitsi.numV (bitsi.bofT x y) = N at *
    generalize good_.rdB 2 30 (bitsi.bofT x y) = R at *
    generalize bitsi.bofT x y = T at *
    generalize bitsi.bofB x y = B at *
    go_wp2_with fail
    refine (HI.out _).mono ?_
    rintro e w2 ⟨rfl, hb2⟩
    have hb2 := hb1.trans (hb2.mono hb1.size)
    go_wp2_with fail
    refine (HN.out _).mono ?_
    rintro e w3 ⟨rfl, rfl⟩
    go_wp2_with fail
    refine (HS.out _).mono ?_
    rintro e w3 ⟨rfl, hb3⟩
    have hb3 := hb2.trans (hb3.mono hb2.size)
    have HB3 := Lib.hid hb3
    have hTT := str_ne_self T
    have hBB := bool_ne_self B
    clear HI HN HS hb1 hb2 hb3 x0 x1 y0 y1
    go_upto_region 7 with fail
    go_cut [81] (fun s wx => s = .bool false ∧ wx = w3)
    case first =>
      cases B
      · go_wp2_with fail
        go_meet
        exact ⟨rfl, rfl⟩
      · obtain ⟨h1, h2, h3⟩ := HB.out rfl
        have g1 : ((N : Int) != x) = false := by rw [h2]; simp
        have g2 : ((T.size : Int) != y) = false := by rw [h3]; simp
        subst h1
        clear h2 h3
        go_wp2_with fail
        go_meet
        exact ⟨rfl, rfl⟩
    case rest =>
      obtain ⟨rfl, rfl⟩ := hcut
      clear HB
      go_wp2_with fail
      refine (drawb.hexOf A n c _ hn (Bytes_below H.out HB3.out)).mono ?_
      rintro e w4 ⟨t, rfl, ht, hb4⟩
      have hb4 := HB3.out.trans (hb4.mono HB3.out.size)
      have HI := Lib.hid (fun w => bitsi.hexOf t w)
      have HS := Lib.hid (fun w => bitss.hexOf t w (by unfold maxLen; omega))
      have HN := Lib.hid (fun w => bitsi.bitsFromHex (bitsi.hexT t) w)
      have HB := Lib.hid (fun h => bitsm.hex_back (s := t) h)
      generalize bitsi.unhexT (bitsi.hexT t) = T2 at *
      generalize good_.rdB 16 16 (bitsi.hexT t) = R2 at *
      generalize bitsi.hexT t = T1 at *
      generalize bitsi.hexB t = B1 at *
      clear HB3
      go_wp2_with fail
      refine (HI.out _).mono ?_
      rintro e w5 ⟨rfl, hb5⟩
      have hb5 := hb4.trans (hb5.mono hb4.size)
      go_wp2_with fail
      refine (HN.out _).mono ?_
      rintro e w6 ⟨rfl, hb6⟩
      have hb6 := hb5.trans (hb6.mono hb5.size)
      go_wp2_with fail
      refine (HS.out _).mono ?_
      rintro e w7 ⟨rfl, rfl⟩
      have HB6 := Lib.hid hb6
      have hTT := str_ne_self T1
      have hBB := bool_ne_self B1
      clear HI HN HS hb4 hb5 hb6 ht
      go_upto_region 13 with fail
      go_cut [118] (fun s wx => s = .bool false ∧ wx = w6)
      case first =>
        cases B1
        · go_wp2_with fail
          go_meet
          exact ⟨rfl, rfl⟩
        · obtain ⟨h1, h2⟩ := HB.out rfl
          subst h1
          subst h2
          have hss := str_ne_self T2
          go_wp2_with fail
          go_meet
          exact ⟨rfl, rfl⟩
      case rest =>
        obtain ⟨rfl, rfl⟩ := hcut
        clear HB
        go_wp2_with fail
        refine (drawb.bitsFromHex A n c _ hn (Bytes_below H.out HB6.out)).mono ?_
        rintro e w8 ⟨u, rfl, hu, hb8⟩
        have hb8 := HB6.out.trans (hb8.mono HB6.out.size)
        have HI := Lib.hid (fun w => bitsi.bitsFromHex u w)
        have HS := Lib.hid (fun w => bitss.bitsFromHex u w (by unfold maxLen; omega))
        have HN := Lib.hid (fun w => bitsi.hexOf (bitsi.unhexT u) w)
        have HB := Lib.hid (fun h => bitsm.unhex_back (u := u) h)
        generalize bitsi.hexT (bitsi.unhexT u) = U2 at *
        generalize bitsi.hexB (bitsi.unhexT u) = R3 at *
        generalize bitsi.unhexT u = U1 at *
        generalize good_.rdB 16 16 u = B2 at *
        clear HB6
        go_wp2_with fail
        refine (HI.out _).mono ?_
        rintro e w9 ⟨rfl, hb9⟩
        have hb9 := hb8.trans (hb9.mono hb8.size)
        go_wp2_with fail
        refine (HN.out _).mono ?_
        rintro e w10 ⟨rfl, hb10⟩
        have hb10 := hb9.trans (hb10.mono hb9.size)
        go_wp2_with fail
        refine (HS.out _).mono ?_
        rintro e w11 ⟨rfl, hb11⟩
        have hb11 := hb10.trans (hb11.mono hb10.size)
        have HB11 := Lib.hid hb11
        have hTT := str_ne_self U1
        have hBB := bool_ne_self B2
        clear HI HN HS hb8 hb9 hb10 hb11 hu
        go_upto_region 19 with fail
        go_cut [155] (fun s wx => s = .bool false ∧ wx = w11)
        case first =>
          cases B2
          · go_wp2_with fail
            go_meet
            exact ⟨rfl, rfl⟩
          · obtain ⟨h1, h2⟩ := HB.out rfl
            subst h1
            subst h2
            have hss := str_ne_self U2
            go_wp2_with fail
            go_meet
            exact ⟨rfl, rfl⟩
        case rest =>
          obtain ⟨rfl, rfl⟩ := hcut
          clear HB
          go_wp2_with fail
          refine (drawb.fieldOf A n c _ hn (Bytes_below H.out HB11.out)).mono ?_
          rintro e w12 ⟨x, f, m, rfl, hx, f0, f1, m0, m1, hb12⟩
          have hb12 := HB11.out.trans (hb12.mono HB11.out.size)
          have hxm : x.size ≤ maxLen := by unfold maxLen; omega
          have HI := Lib.hid (fun w => bitsi.fieldOf x f m w hxm (by omega) (by omega))
          have HS := Lib.hid (fun w => bitss.fieldOf x f m w hxm (by omega))
          have J1 := Lib.hid (fun w => bitsi.isBits x w)
          have J2 := Lib.hid (fun w => bitss.isBits x w hxm)
          generalize bitsi.fldV x f m = V at *
          generalize bitsi.fldB x f m = B3 at *
          generalize good_.rdB 2 64 x = B4 at *
          clear HB11 hx f0 f1 m0 m1 hxm
          go_wp2_with fail
          refine (HI.out _).mono ?_
          rintro e w13 ⟨rfl, rfl⟩
          go_wp2_with fail
          refine (HS.out _).mono ?_
          rintro e w13 ⟨rfl, rfl⟩
          have HB12 := Lib.hid hb12
          clear hb12
          go_wp2_with fail
          refine (J1.out _).mono ?_
          rintro e w13 ⟨rfl, rfl⟩
          go_wp2_with fail
          refine (J2.out _).mono ?_
          rintro e w13 ⟨rfl, rfl⟩
          go_wp2_with fail
          go_ret
          exact ⟨by simp, HB12.out⟩

theorem own : ownKnob Try.prog.godebug = none := by kernel_rfl
theorem laidOut : laidOutB Try.prog = true := by kernel_rfl

set_option maxRecDepth 100000 in
theorem lifted (os : Os) (started : os.Started) (H : Type) (enc : TypeId × Value → H) :
    ReturnsInHanded {} Try.checked os 3 .any (Rows.fnBitsSpec.pre6 enc Try.prog Try.f3 Rows.fnBitsRow.domain false) (Rows.fnBitsSpec.post enc Try.prog Try.f3 false true false false) := by
  refine returnsInHanded_of_change (C := Try.checked) own started (by kernel_rfl) Try.func3
    (ChangeSpec.witness6 (enc := enc) (C := Try.checked) false ⟨#[], #[.slice none 0 0], []⟩ 8 (by kernel_rfl) (by kernel_rfl) (by kernel_rfl) (by kernel_rfl)) ?_
  intro W base args ds gs before hval0 hW hcnd _
  have hval : ∀ (j : Nat) t v, Try.f3.params[j]? = some t → args[j]? = some v → Value.okWide Try.prog W .any base t v := hval0
  have hW' := hW
  obtain ⟨p, q, hA0, hV, rfl, hfz, hnd⟩ := hW
  have hA : DataW.TrodAll enc Try.prog W 0 (fun _ => true) true Try.f3.params.toList args.toList ds p := hA0
  rw [Try.params3] at hA hval
  obtain ⟨v0, vs0, d0, ds0, p0, q0, hargs, rfl, rfl, h0, r0⟩ := trodAll_cons hA
  obtain ⟨rfl, rfl, rfl⟩ := trodAll_nil r0
  obtain rfl : args = #[v0] := by cases args; simp_all
  obtain ⟨rfl, rfl⟩ := trodVars_none hV
  obtain ⟨a0, len0, cap0, rfl⟩ := okWide_slice Try.underlying22 (hval 0 22 v0 rfl rfl)
  have k0 := h0
  have lt0 : ∀ x ∈ p0, x.block < W.heap.size := by obtain ⟨m, hm⟩ := k0; exact DataW.trod_lt m _ _ _ hm
  obtain ⟨z0, w0⟩ : ∃ zs, IsRow .u8 W a0 len0 cap0 zs := by
    obtain ⟨fuel, hf⟩ := h0
    rcases open_ints Try.underlying22 Try.underlying5 (by kernel_rfl) hf with ⟨hcs, _⟩ | ⟨x, l, c, zs, hcs, _, hl, hm, hz, _, hcell, hwz⟩
    · simp [Value.cells] at hcs
      obtain ⟨rfl, rfl, rfl⟩ := hcs
      exact ⟨[], .inl ⟨rfl, rfl, rfl, rfl⟩⟩
    · simp [Value.cells] at hcs
      obtain ⟨rfl, rfl, rfl⟩ := hcs
      exact ⟨zs, .inr ⟨_, rfl, hl, hm, by simpa using hz, hcell, hwz⟩⟩
  clear hA0 hval0
  refine (walk a0 len0 cap0 z0 W w0).mono fun e W' ⟨he, bel⟩ => ?_
  subst he
  exact ⟨_, rfl, _, _, _, [], _, [], hW', trodAll_mk1 (shut_bool Try.underlying4 _), (trodAll_cons_mk (Below.trod laidOut (by kernel_rfl) (of_decide_eq_true (by kernel_rfl)) k0 bel lt0) trodAll_mk0), rfl, bel.frame _, fun h => by cases h⟩

theorem over : Rows.fnBitsRow.holds Try.pinned (OpenSpec.ofChange Rows.fnBitsSpec) :=
  OpenClaim.holds_of_wide 3 Try.f3 rfl rfl rfl rfl rfl rfl rfl ⟨rfl, rfl, rfl, rfl, rfl⟩ rfl rfl rfl rfl rfl (by kernel_rfl) Try.func3 (by kernel_rfl)
    (of_decide_eq_true (by kernel_rfl)) (by unfold Func.isWrapper; first | (rw [if_pos (by decide +kernel)]; kernel_rfl) | (rw [if_neg (by decide +kernel)]; exact ⟨rfl, rfl⟩))
    (fun os started H enc _ => lifted os started H enc)

theorem proved : Rows.FnBitsSaid :=
  over
#print axioms proved
end Go.Proofs.Ythamflifmpideaa.fnBits
