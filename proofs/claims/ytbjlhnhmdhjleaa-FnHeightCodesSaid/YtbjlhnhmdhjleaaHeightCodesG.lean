/- For every code of at most 65536 bytes (and trivially for a longer one) the law FnHeightCodes returns true: what it draws are numbers in range, whatever the bytes are; codes, heights, Gray codes and changed bits are answered as the model answers, heights are recovered from their codes and numbers from their Gray codes, and the Gray codes of successive numbers differ in one bit. No condition of mine. -/
import Derived.Test.YtbjlhnhmdhjleaaRows
import Derived.Test.YtbjlhnhmdhjleaaDrawH
import Derived.Test.YtbjlhnhmdhjleaaHgtV
import Derived.Test.YtbjlhnhmdhjleaaCode
import Derived.WalkKit
import Derived.ProofKit
import Derived.OpenShut
import Derived.ShutString
import Derived.ChangeOld
import Derived.Below
import Derived.Deep.DeepCutAuto
namespace Go.Proofs.Ytbjlhnhmdhjleaa.fnHeightCodes
open Go.ChangeShapes Go.WideShapes Go.ChangeAt Go.RowKit
open Go.ChangeMaps (open_string shut_string)
open Go.Proofs.Ytbjlhnhmdhjleaa.code_ Go.Proofs.Ytbjlhnhmdhjleaa.cur Go.Proofs.Ytbjlhnhmdhjleaa.hgt
set_option linter.unusedVariables false

theorem bool_ne_self (b : Bool) : (b != b) = false := by simp
theorem bool_eq_self (b : Bool) : (b == b) = true := by simp
theorem int_ne_self (b : Int) : (b != b) = false := by simp
theorem int_eq_self (b : Int) : (b == b) = true := by simp
theorem gr_back {n : Int} (h : grB n = true) : grB (grV n) = true ∧ (ugV (grV n) : Int) = n := by
  have h2 := h
  unfold grB at h2
  rw [decide_eq_true_eq] at h2
  obtain ⟨k, rfl⟩ := Int.eq_ofNat_of_zero_le h2.1
  have hk : k < 2048 := by omega
  rw [(gr_yes hk).2.1]
  have hg := gr_yes (gray_lt hk)
  exact ⟨hg.1, by rw [hg.2.2, un_gray hk]⟩

set_option maxRecDepth 100000 in
set_option maxHeartbeats 4000000 in
theorem walk (A : Option Addr) (n c : Nat) (z : List Int) (w : World) (w0 : IsRow .u8 w A n c z) :
    Calls Try.prog 3 #[.slice A n c] w fun e w' => e = .returned (.bool true) ∧ Below w.heap.size w w' := by
  obtain ⟨hby, hnc, -⟩ := bytes_of w0
  clear w0
  have hv := Lib.hid (fun w => rBig A n c w)
  by_cases hbig : (65536 : Int) < (n : Int)
  · clear hby
    go_enter Try.func3, Try.ntmps3
    go_wp2_with fail
    refine (hv.out _).mono ?_
    rintro e w1 ⟨rfl, rfl⟩
    go_wp2_with fail
    go_ret
    exact ⟨rfl, Below.refl _ _⟩
  · have hd : decide ((65536 : Int) < (n : Int)) = false := by simpa using hbig
    have hn : n ≤ 65536 := by omega
    have H := Lib.hid hby
    clear hby hbig hnc
    go_enter Try.func3, Try.ntmps3
    go_wp2_with fail
    refine (hv.out _).mono ?_
    rintro e w1 ⟨rfl, rfl⟩
    clear hd hv
    go_wp2_with fail
    refine (drawh.encodeHeight A n c _ hn H.out).mono ?_
    rintro e w1 ⟨h, f, rfl, h0, h1, hb1⟩
    have EI := Lib.hid (fun w => hgtj.encode h f w)
    have ES := Lib.hid (fun w => hgtu.encode h f w (by omega) (by omega))
    have DI := Lib.hid (fun w => hgtk.decode (enV h f : Int) w)
    have NI := Lib.hid (fun w => hgtk.nearest h f w)
    have HB := Lib.hid (fun hb => back h f hb)
    clear h0 h1
    generalize enB h f = B at *
    generalize (enV h f : Int) = C at *
    generalize dcH C = dh at *
    generalize dcF C = df at *
    generalize dcB C = db at *
    generalize nrV h f = nv at *
    generalize hB h = hh at *
    go_wp2_with fail
    refine (EI.out _).mono ?_
    rintro e w2 ⟨rfl, hb2⟩
    have hb2 := hb1.trans (hb2.mono hb1.size)
    go_wp2_with fail
    refine (ES.out _).mono ?_
    rintro e w3 ⟨rfl, rfl⟩
    have HB2 := Lib.hid hb2
    have g1 := int_ne_self C
    have g2 := bool_ne_self B
    clear EI ES hb1 hb2
    go_upto_if 67 with fail
    go_cut [] (fun wx => Below w.heap.size w wx)
    case first =>
      cases B
      · go_wp2_with fail
        go_meet
        case rel => exact HB2.out
      · obtain ⟨e1, e2, e3, e4, e5⟩ := HB.out rfl
        have g3 := int_ne_self h
        have g4 := bool_ne_self f
        rw [e1, e2, e3] at DI
        rw [e4, e5] at NI
        clear e1 e2 e3 e4 e5 HB
        go_wp2_with fail
        refine (DI.out _).mono ?_
        rintro e w4 ⟨rfl, hb4⟩
        have hb4 := HB2.out.trans (hb4.mono HB2.out.size)
        go_wp2_with fail
        refine (NI.out _).mono ?_
        rintro e w5 ⟨rfl, hb5⟩
        have HB5 := Lib.hid (hb4.trans (hb5.mono hb4.size))
        clear hb4 hb5 HB2
        go_wp2_with fail
        go_meet
        case rel => exact HB5.out
    case rest =>
      have HB2 := Lib.hid hcut
      clear hcut HB DI NI g1 g2
      go_wp2_with fail
      refine (drawh.decodeHeight A n c _ hn (Bytes_below H.out HB2.out)).mono ?_
      rintro e w4 ⟨d, rfl, d0, d1, hb4⟩
      have hb4 := HB2.out.trans (hb4.mono HB2.out.size)
      have DI := Lib.hid (fun w => hgtk.decode d w)
      have DS := Lib.hid (fun w => hgts.decodeHeight d w)
      have EI := Lib.hid (fun w => hgtj.encode (dcH d) (dcF d) w)
      have HB := Lib.hid (fun hb => again d hb)
      have g0 := bool_ne_self (dcF d)
      have g1 := int_ne_self (dcH d)
      have g2 := bool_ne_self (dcB d)
      clear d0 d1
      generalize enB (dcH d) (dcF d) = eb at *
      generalize (enV (dcH d) (dcF d) : Int) = ev at *
      generalize dcH d = dh at *
      generalize dcF d = df at *
      generalize dcB d = db at *
      go_wp2_with fail
      refine (DI.out _).mono ?_
      rintro e w5 ⟨rfl, hb5⟩
      have hb5 := hb4.trans (hb5.mono hb4.size)
      go_wp2_with fail
      refine (DS.out _).mono ?_
      rintro e w6 ⟨rfl, rfl⟩
      have HB5 := Lib.hid hb5
      clear hb4 hb5 DI DS HB2
      go_upto_if 128 with fail
      go_cut [] (fun wx => Below w.heap.size w wx)
      case first =>
        cases db
        · go_wp2_with fail
          go_meet
          case rel => exact HB5.out
        · obtain ⟨e1, e2⟩ := HB.out rfl
          rw [e1, e2] at EI
          have g3 := int_ne_self d
          clear e1 e2 HB
          go_wp2_with fail
          refine (EI.out _).mono ?_
          rintro e w6 ⟨rfl, hb6⟩
          have HB6 := Lib.hid (HB5.out.trans (hb6.mono HB5.out.size))
          clear hb6 HB5
          go_wp2_with fail
          go_meet
          case rel => exact HB6.out
      case rest =>
        have HB5 := Lib.hid hcut
        clear hcut HB EI g0 g1 g2
        go_wp2_with fail
        refine (drawh.grayOf A n c _ hn (Bytes_below H.out HB5.out)).mono ?_
        rintro e w6 ⟨m, rfl, m0, m1, hb6⟩
        have hb6 := HB5.out.trans (hb6.mono HB5.out.size)
        have GI := Lib.hid (fun w => hgti.grayOf m w)
        have GS := Lib.hid (fun w => hgts.grayOf m w)
        have UI := Lib.hid (fun w => hgti.fromGray (grV m : Int) w)
        have GN := Lib.hid (fun w => hgti.grayOf (m + 1) w)
        have CI := Lib.hid (fun w => hgtc.changed (grV m : Int) (grV (m + 1) : Int) w)
        have HB := Lib.hid (fun hb => @gr_back m hb)
        have HN := Lib.hid (fun (hb : grB m = true) (hm : m < 1279) => next_bits m (by unfold grB at hb; rw [decide_eq_true_eq] at hb; exact hb.1) hm)
        have g1 := int_ne_self (grV m : Int)
        have g2 := bool_ne_self (grB m)
        generalize cbB (grV m : Int) (grV (m + 1) : Int) = cb at *
        generalize cbV (grV m : Int) (grV (m + 1) : Int) = cv at *
        generalize grB (grV m : Int) = ub at *
        generalize (ugV (grV m : Int) : Int) = uv at *
        generalize grB (m + 1) = nb at *
        generalize (grV (m + 1) : Int) = nv at *
        generalize (grV m : Int) = gv at *
        generalize grB m = gb at *
        go_wp2_with fail
        refine (GI.out _).mono ?_
        rintro e w7 ⟨rfl, rfl⟩
        go_wp2_with fail
        refine (GS.out _).mono ?_
        rintro e w7 ⟨rfl, rfl⟩
        have HB6 := Lib.hid hb6
        clear hb6 GI GS HB5
        go_upto_if 162 with fail
        go_cut [] (fun wx => Below w.heap.size w wx)
        case first =>
          cases gb
          · go_wp2_with fail
            go_meet
            case rel => exact HB6.out
          · obtain ⟨e1, e2⟩ := HB.out rfl
            rw [e1, e2] at UI
            have g3 := int_ne_self m
            clear e1 e2 HB
            go_wp2_with fail
            refine (UI.out _).mono ?_
            rintro e w7 ⟨rfl, rfl⟩
            go_wp2_with fail
            refine (GN.out _).mono ?_
            rintro e w7 ⟨rfl, rfl⟩
            cases nb
            · clear HN
              go_wp2_with fail
              go_meet
              case rel => exact HB6.out
            · by_cases hm : m < 1279
              · obtain ⟨e1, e2⟩ := HN.out (by first | trivial | rfl) hm
                rw [e1, e2] at CI
                clear e1 e2 HN
                go_wp2_with fail
                refine (CI.out _).mono ?_
                rintro e w8 ⟨rfl, hb8⟩
                have HB8 := Lib.hid (HB6.out.trans (hb8.mono HB6.out.size))
                clear hb8 HB6
                go_wp2_with fail
                go_meet
                case rel => exact HB8.out
              · clear HN
                go_wp2_with fail
                go_meet
                case rel => exact HB6.out
        case rest =>
          have HB6 := Lib.hid hcut
          clear hcut HB HN UI GN CI g1 g2 m0 m1
          go_wp2_with fail
          refine (drawh.changedBits A n c _ hn (Bytes_below H.out HB6.out)).mono ?_
          rintro e w7 ⟨a, b, rfl, a0, a1, b0, b1, hb7⟩
          have hb7 := HB6.out.trans (hb7.mono HB6.out.size)
          have CI := Lib.hid (fun w => hgtc.changed a b w)
          have CS := Lib.hid (fun w => hgtv.changed a b w)
          have g1 := int_eq_self (cbV a b : Int)
          have g2 := bool_eq_self (cbB a b)
          clear a0 a1 b0 b1 HB6
          generalize (cbV a b : Int) = cv at *
          generalize cbB a b = cb at *
          go_wp2_with fail
          refine (CI.out _).mono ?_
          rintro e w8 ⟨rfl, hb8⟩
          have hb8 := hb7.trans (hb8.mono hb7.size)
          go_wp2_with fail
          refine (CS.out _).mono ?_
          rintro e w9 ⟨rfl, rfl⟩
          have HB8 := Lib.hid hb8
          clear hb7 hb8 CI CS
          go_wp2_with fail
          go_ret
          exact ⟨rfl, HB8.out⟩

theorem own : ownKnob Try.prog.godebug = none := by kernel_rfl
theorem laidOut : laidOutB Try.prog = true := by kernel_rfl

set_option maxRecDepth 100000 in
theorem lifted (os : Os) (started : os.Started) (H : Type) (enc : TypeId × Value → H) :
    ReturnsInHanded {} Try.checked os 3 .any (Rows.fnHeightCodesSpec.pre6 enc Try.prog Try.f3 Rows.fnHeightCodesRow.domain false) (Rows.fnHeightCodesSpec.post enc Try.prog Try.f3 false true false false) := by
  refine returnsInHanded_of_change (C := Try.checked) own started (by kernel_rfl) Try.func3
    (ChangeSpec.witness6 (enc := enc) (C := Try.checked) false ⟨#[], #[.slice none 0 0], []⟩ 8 (by kernel_rfl) (by kernel_rfl) (by kernel_rfl) (by kernel_rfl)) ?_
  intro W base args ds gs before hval0 hW hcnd _
  have hval : ∀ (j : Nat) t v, Try.f3.params[j]? = some t → args[j]? = some v → Value.okWide Try.prog W .any base t v := hval0
  have hW' := hW
  obtain ⟨p, q, hA0, hV, rfl, hfz, hnd⟩ := hW
  have hA : DataW.TrodAll enc Try.prog W 0 (fun _ => true) true Try.f3.params.toList args.toList ds p := hA0
  rw [Try.params3] at hA hval
  obtain ⟨v0, vs0, d0, ds0, p0, q0, hargs, rfl, rfl, h0, r0⟩ := trodAll_cons hA
  obtain ⟨rfl, rfl, rfl⟩ := trodAll_nil r0
  obtain rfl : args = #[v0] := by cases args; simp_all
  obtain ⟨rfl, rfl⟩ := trodVars_none hV
  obtain ⟨a0, len0, cap0, rfl⟩ := okWide_slice Try.underlying22 (hval 0 22 v0 rfl rfl)
  have k0 := h0
  have lt0 : ∀ x ∈ p0, x.block < W.heap.size := by obtain ⟨m, hm⟩ := k0; exact DataW.trod_lt m _ _ _ hm
  obtain ⟨z0, w0⟩ : ∃ zs, IsRow .u8 W a0 len0 cap0 zs := by
    obtain ⟨fuel, hf⟩ := h0
    rcases open_ints Try.underlying22 Try.underlying5 (by kernel_rfl) hf with ⟨hcs, _⟩ | ⟨x, l, c, zs, hcs, _, hl, hm, hz, _, hcell, hwz⟩
    · simp [Value.cells] at hcs
      obtain ⟨rfl, rfl, rfl⟩ := hcs
      exact ⟨[], .inl ⟨rfl, rfl, rfl, rfl⟩⟩
    · simp [Value.cells] at hcs
      obtain ⟨rfl, rfl, rfl⟩ := hcs
      exact ⟨zs, .inr ⟨_, rfl, hl, hm, by simpa using hz, hcell, hwz⟩⟩
  clear hA0 hval0
  refine (walk a0 len0 cap0 z0 W w0).mono fun e W' ⟨he, bel⟩ => ?_
  subst he
  exact ⟨_, rfl, _, _, _, [], _, [], hW', trodAll_mk1 (shut_bool Try.underlying4 _), (trodAll_cons_mk (Below.trod laidOut (by kernel_rfl) (of_decide_eq_true (by kernel_rfl)) k0 bel lt0) trodAll_mk0), rfl, bel.frame _, fun h => by cases h⟩

theorem over : Rows.fnHeightCodesRow.holds Try.pinned (OpenSpec.ofChange Rows.fnHeightCodesSpec) :=
  OpenClaim.holds_of_wide 3 Try.f3 rfl rfl rfl rfl rfl rfl rfl ⟨rfl, rfl, rfl, rfl, rfl⟩ rfl rfl rfl rfl rfl (by kernel_rfl) Try.func3 (by kernel_rfl)
    (of_decide_eq_true (by kernel_rfl)) (by unfold Func.isWrapper; first | (rw [if_pos (by decide +kernel)]; kernel_rfl) | (rw [if_neg (by decide +kernel)]; exact ⟨rfl, rfl⟩))
    (fun os started H enc _ => lifted os started H enc)

theorem proved : Rows.FnHeightCodesSaid :=
  over
#print axioms proved
end Go.Proofs.Ytbjlhnhmdhjleaa.fnHeightCodes
