/- For every code of at most 65536 bytes (and trivially for a longer one) the law FnAddresses returns true: two different frames that are drawn differ in four bits at least, equal ones in none, whichever comes first; the frames of an address and the addresses of a list are the model's; and the addresses of a valid list share its frames out among them. No condition of mine. -/
import Derived.Test.YtpjpdfannnafbaaRows
import Derived.Test.YtpjpdfannnafbaaDrawX
import Derived.Test.YtpjpdfannnafbaaDrawY
import Derived.Test.YtpjpdfannnafbaaFrmH
import Derived.Test.YtpjpdfannnafbaaFrmG
import Derived.Test.YtpjpdfannnafbaaFrmJ
import Derived.Test.YtpjpdfannnafbaaVInt
import Derived.Test.YtpjpdfannnafbaaCode
import Derived.WalkKit
import Derived.ProofKit
import Derived.OpenShut
import Derived.ShutString
import Derived.ChangeOld
import Derived.Below
namespace Go.Proofs.Ytpjpdfannnafbaa.fnAddresses
open Go.ChangeShapes Go.WideShapes Go.ChangeAt Go.RowKit
open Go.ChangeMaps (open_string shut_string)
open Go.Proofs.Ytpjpdfannnafbaa.code_ Go.Proofs.Ytpjpdfannnafbaa.cur Go.Proofs.Ytpjpdfannnafbaa.ats Go.Proofs.Ytpjpdfannnafbaa.ints Go.Proofs.Ytpjpdfannnafbaa.frmz Go.Proofs.Ytpjpdfannnafbaa.frmh
set_option linter.unusedVariables false

theorem bool_ne_self (b : Bool) : (b != b) = false := by simp
theorem own_rd {w : World} {B e k : Nat} {v : Value} {zs : List Int} (h : w.ownsRow B e 3 v k (cellsI zs)) : ∃ A c, v = .slice A k c ∧ RdZ 3 w w.heap.size A k zs := by
  obtain ⟨A, c, rfl⟩ := drawy.own_any h
  exact ⟨A, c, rfl, RdZ.of_own h (by have := h.1; unfold cellsI at this; simpa using this)⟩

set_option maxRecDepth 100000 in
set_option maxHeartbeats 4000000 in
theorem walk (A : Option Addr) (n c : Nat) (z : List Int) (w : World) (w0 : IsRow .u8 w A n c z) :
    Calls Try.prog 3 #[.slice A n c] w fun e w' => e = .returned (.bool true) ∧ Below w.heap.size w w' := by
  obtain ⟨hby, hnc, -⟩ := bytes_of w0
  clear w0
  have hv := Lib.hid (fun w => vBig A n c w)
  by_cases hbig : (65536 : Int) < (n : Int)
  · clear hby
    go_enter Try.func3, Try.ntmps3
    go_wp2_with fail
    refine (hv.out _).mono ?_
    rintro e w1 ⟨rfl, rfl⟩
    go_wp2_with fail
    go_ret
    exact ⟨rfl, Below.refl _ _⟩
  · have hd : decide ((65536 : Int) < (n : Int)) = false := by simpa using hbig
    have hn : n ≤ 65536 := by omega
    have H := Lib.hid hby
    clear hby hbig hnc
    go_enter Try.func3, Try.ntmps3
    go_wp2_with fail
    refine (hv.out _).mono ?_
    rintro e w1 ⟨rfl, rfl⟩
    clear hd
    go_wp2_with fail
    refine (drawx.frameDistance A n c _ hn H.out).mono ?_
    rintro e w1 ⟨K, A1, D, K', A', D', rfl, hN1, hN2, hb1⟩
    have hcm := fd_comm K A1 D K' A' D'
    have hcs := Lib.hid (fd_cases K A1 D K' A' D')
    have X1 := Lib.hid (fun w => frmj.distance K A1 D K' A' D' w)
    have x2 := fun w => frmj.distance K' A' D' K A1 D w
    rw [hcm.1, hcm.2] at x2
    have X2 := Lib.hid x2
    have X3 := Lib.hid (fun w => frmv.distance K A1 D K' A' D' w)
    clear hcm x2 hN1 hN2 hv
    generalize frmv.fdB K A1 D K' A' D' = g at *
    generalize frmv.fdV K A1 D K' A' D' = v at *
    have B0 := Lib.hid (((newS 25 #[.int .i64 K, .int .i64 A1, .int .i64 D] w1).alloc (.cells #[.int .i64 K', .int .i64 A', .int .i64 D'] 25)))
    have c0 := Lib.hid ((newS 25 #[.int .i64 K, .int .i64 A1, .int .i64 D] w1).next 25 #[.int .i64 K', .int .i64 A', .int .i64 D'])
    have C0 := Lib.hid (show AtS _ _ w1 _ (w1.heap.size + 1) by have := c0.out; rwa [World.size_alloc] at this)
    clear c0
    have HB1 := Lib.hid hb1
    clear hb1
    go_wp2_with fail
    generalize (w1.alloc (.cells #[.int .i64 K, .int .i64 A1, .int .i64 D] 25)).alloc (.cells #[.int .i64 K', .int .i64 A', .int .i64 D'] 25) = W0 at *
    generalize w1.heap.size = b1 at *
    refine (X1.out _).mono ?_
    rintro e W1 ⟨rfl, h1⟩
    have B1 := Lib.hid (B0.out.old h1)
    have C1 := Lib.hid (C0.out.old h1)
    have p0 : W1.cell? ⟨b1, 0, none⟩ = some (.int .i64 K) := B1.out.cell 0
    have p1 : W1.cell? ⟨b1, 1, none⟩ = some (.int .i64 A1) := B1.out.cell 1
    have p2 : W1.cell? ⟨b1, 2, none⟩ = some (.int .i64 D) := B1.out.cell 2
    have q0 : W1.cell? ⟨b1 + 1, 0, none⟩ = some (.int .i64 K') := C1.out.cell 0
    have q1 : W1.cell? ⟨b1 + 1, 1, none⟩ = some (.int .i64 A') := C1.out.cell 1
    have q2 : W1.cell? ⟨b1 + 1, 2, none⟩ = some (.int .i64 D') := C1.out.cell 2
    clear h1
    go_wp2_with fail
    refine (X2.out _).mono ?_
    rintro e W2 ⟨rfl, h2⟩
    have B2 := Lib.hid (B1.out.old h2)
    have C2 := Lib.hid (C1.out.old h2)
    clear p0 p1 p2 q0 q1 q2 h2
    have p0 : W2.cell? ⟨b1, 0, none⟩ = some (.int .i64 K) := B2.out.cell 0
    have p1 : W2.cell? ⟨b1, 1, none⟩ = some (.int .i64 A1) := B2.out.cell 1
    have p2 : W2.cell? ⟨b1, 2, none⟩ = some (.int .i64 D) := B2.out.cell 2
    have q0 : W2.cell? ⟨b1 + 1, 0, none⟩ = some (.int .i64 K') := C2.out.cell 0
    have q1 : W2.cell? ⟨b1 + 1, 1, none⟩ = some (.int .i64 A') := C2.out.cell 1
    have q2 : W2.cell? ⟨b1 + 1, 2, none⟩ = some (.int .i64 D') := C2.out.cell 2
    go_wp2_with fail
    refine (X3.out _).mono ?_
    rintro e W3 ⟨rfl, h3⟩
    have B3 := Lib.hid (B2.out.old h3)
    have C3 := Lib.hid (C2.out.old h3)
    clear p0 p1 p2 q0 q1 q2 h3
    have p0 : W3.cell? ⟨b1, 0, none⟩ = some (.int .i64 K) := B3.out.cell 0
    have p1 : W3.cell? ⟨b1, 1, none⟩ = some (.int .i64 A1) := B3.out.cell 1
    have p2 : W3.cell? ⟨b1, 2, none⟩ = some (.int .i64 D) := B3.out.cell 2
    have q0 : W3.cell? ⟨b1 + 1, 0, none⟩ = some (.int .i64 K') := C3.out.cell 0
    have q1 : W3.cell? ⟨b1 + 1, 1, none⟩ = some (.int .i64 A') := C3.out.cell 1
    have q2 : W3.cell? ⟨b1 + 1, 2, none⟩ = some (.int .i64 D') := C3.out.cell 2
    have HB3 := Lib.hid (HB1.out.trans (B3.out.1.mono HB1.out.size))
    clear X1 X2 X3 B0 B1 B2 B3 C0 C1 C2 C3 HB1
    go_upto_region 7 with fail
    go_cut [90] from 51 to 90 (fun s wx => s = .bool false ∧ wx = W3)
    case first =>
      rcases hcs.out with h0 | ⟨h0, rfl, rfl, rfl, hv0⟩ | ⟨h0, h4, hne⟩
      · clear hcs
        subst h0
        go_wp2_with fail
        go_meet
        exact ⟨rfl, rfl⟩
      · clear hcs
        subst h0
        subst hv0
        go_wp2_with fail
        go_meet
        exact ⟨rfl, rfl⟩
      · clear hcs
        subst h0
        have e1 : ((v : Int) == 0) = false := by simp; omega
        have e2 : decide ((0 : Int) < (v : Int)) = true := decide_eq_true (by omega)
        have e3 : decide (0 < v) = true := decide_eq_true (by omega)
        have e4 : decide ((v : Int) < 4) = false := decide_eq_false (by omega)
        clear h4
        by_cases hK : K = K'
        · subst hK
          by_cases hA : A1 = A'
          · subst hA
            have hD : (D == D') = false := by simpa using hne
            clear hne
            go_wp2_with fail
            go_meet
            exact ⟨rfl, rfl⟩
          · have hA : (A1 == A') = false := by simpa using hA
            clear hne
            go_wp2_with fail
            go_meet
            exact ⟨rfl, rfl⟩
        · have hK : (K == K') = false := by simpa using hK
          clear hne
          go_wp2_with fail
          go_meet
          exact ⟨rfl, rfl⟩
    case rest =>
      obtain ⟨rfl, rfl⟩ := hcut
      clear hcs p0 p1 p2 q0 q1 q2
      have hby3 := Bytes_below H.out HB3.out
      go_wp2_with fail
      refine (drawy.framesOf A n c _ hn hby3).mono ?_
      rintro e W4 ⟨l, m, zs, x, rfl, ho4, hm, hx0, hx1, hb4⟩
      obtain ⟨L, lc, rfl, hr4⟩ := own_rd ho4
      have Y1 := Lib.hid (fun w h => frmg.framesOf zs x L m lc w (by omega) h)
      have Y2 := Lib.hid (fun w h => frmx.framesOf zs x L m lc w (by omega) h)
      have HB4 := Lib.hid (HB3.out.trans (hb4.mono HB3.out.size))
      have hVl := Nat.le_trans (frmx.foV_length zs m x) hm
      have hgg := bool_ne_self (frmx.foB zs m x)
      clear ho4 hb4 HB3 hby3 hx0 hx1
      generalize frmx.foV zs m x = V at *
      generalize frmx.foB zs m x = O at *
      go_wp2_with fail
      refine (Y1.out _ hr4).mono ?_
      rintro e W5 ⟨v5, rfl, ho5, hb5⟩
      obtain ⟨A5, c5, rfl⟩ := own_slice ho5
      have r5 := RdI.of_own ho5 rfl
      have hr5 := hr4.next hb5
      have HB5 := Lib.hid (HB4.out.trans (hb5.mono HB4.out.size))
      clear hr4 ho5 hb5 HB4 Y1
      go_wp2_with fail
      refine (Y2.out _ hr5).mono ?_
      rintro e W6 ⟨v6, rfl, ho6, hb6⟩
      obtain ⟨A6, c6, rfl⟩ := own_slice ho6
      have r6 := RdI.of_own ho6 rfl
      have r56 := r5.next hb6
      have HB6 := Lib.hid (HB5.out.trans (hb6.mono HB5.out.size))
      clear hr5 ho6 hb6 HB5 Y2 r5
      have VI := Lib.hid (vint.vInts V A5 A6 V.length c5 c6 W6 (by omega) r56 r6)
      generalize V.length = N at *
      clear r56 r6 hVl hm
      go_wp2_with fail
      refine VI.out.mono ?_
      rintro e W7 ⟨rfl, j7, rfl⟩
      have HB7 := Lib.hid (aid.below_drewN HB6.out j7)
      clear VI HB6 hgg
      generalize W6.drewN j7 = W7 at *
      have hby7 := Bytes_below H.out HB7.out
      go_wp2_with fail
      refine (drawy.addressesOf A n c _ hn hby7).mono ?_
      rintro e W8 ⟨l2, m2, zs2, rfl, ho8, hm, hb8⟩
      obtain ⟨L2, lc2, rfl, hr8⟩ := own_rd ho8
      have Y1 := Lib.hid (fun w h => frmg.addressesOf zs2 L2 m2 lc2 w (by omega) h)
      have Y2 := Lib.hid (fun w h => frma.addressesOf zs2 L2 m2 lc2 w (by omega) h)
      have Y3 := Lib.hid (fun w h a => frmg.framesOf zs2 a L2 m2 lc2 w (by omega) h)
      have HB8 := Lib.hid (HB7.out.trans (hb8.mono HB7.out.size))
      have hVl := Nat.le_trans (frma.adV_length zs2 m2) hm
      have hgg := bool_ne_self (frmw.listB zs2 m2)
      clear ho8 hb8 HB7 hby7
      go_wp2_with fail
      refine (Y1.out _ hr8).mono ?_
      rintro e W9 ⟨v9, rfl, ho9, hb9⟩
      obtain ⟨A9, c9, rfl⟩ := own_slice ho9
      have r9 := RdI.of_own ho9 rfl
      have hr9 := hr8.next hb9
      have HB9 := Lib.hid (HB8.out.trans (hb9.mono HB8.out.size))
      clear hr8 ho9 hb9 HB8 Y1
      go_wp2_with fail
      refine (Y2.out _ hr9).mono ?_
      rintro e W10 ⟨v10, rfl, ho10, hb10⟩
      obtain ⟨A10, c10, rfl⟩ := own_slice ho10
      have r10 := RdI.of_own ho10 rfl
      have r910 := r9.next hb10
      have hr10 := hr9.next hb10
      have HB10 := Lib.hid (HB9.out.trans (hb10.mono HB9.out.size))
      clear hr9 ho10 hb10 HB9 Y2 r9
      have VI := Lib.hid (vint.vInts _ A9 A10 _ c9 c10 W10 (by omega) r910 r10)
      have HR := Lib.hid r910
      have HZ := Lib.hid hr10
      clear r910 r10 hr10
      generalize hN : (frma.adV zs2 m2).length = N at *
      have HN := Lib.hid hN
      generalize hO : frmw.listB zs2 m2 = O at *
      have HO := Lib.hid hO
      clear hN hO
      go_wp2_with fail
      refine VI.out.mono ?_
      rintro e W11 ⟨rfl, j11, rfl⟩
      have HB11 := Lib.hid (aid.below_drewN HB10.out j11)
      have HR11 : Hid (RdI (W10.drewN j11) (W10.drewN j11).heap.size A9 N (frma.adV zs2 m2)) := HR
      have HZ11 : Hid (RdZ 3 (W10.drewN j11) (W10.drewN j11).heap.size L2 m2 zs2) := HZ
      clear VI HB10 hgg HR HZ
      generalize W10.drewN j11 = W11 at *
      go_wp2_with fail
      go_loopw [22, 23] (fun s i wr => ∃ j : Nat, j ≤ N ∧ i = .int .i64 j ∧ s = .int .i64 (cnt zs2 m2 j) ∧ Below W11.heap.size W11 wr) (fun _ i _ => N - (intOf i).toNat)
      case atStart => exact ⟨0, Nat.zero_le _, rfl, by unfold cnt; rw [List.take_zero]; rfl, Below.refl _ _⟩
      case round =>
        obtain ⟨j, hj, rfl, rfl, hbw⟩ := hrel
        have hcl := cnt_le zs2 m2 j
        by_cases hlt : j < N
        · obtain ⟨b, o, a, rfl, hbl, ha, hcell⟩ := (HR11.out.below hbw (Nat.le_refl _)).at_ hlt
          have hlt2 : (j : Int) < (N : Int) := by omega
          obtain ⟨s1, s2, s3, s4⟩ := cnt_step ha
          have HS := Lib.hid s4
          have hfl := frmx.foV_length zs2 m2 a
          have X := Lib.hid (Y3.out wr (HZ11.out.next hbw) a)
          rw [s2] at X
          generalize frmx.foV zs2 m2 a = V2 at *
          have hcb : cnt zs2 m2 j ≤ 22 * 22 := Nat.le_trans hcl (Nat.mul_le_mul (by omega) hm)
          clear s1 s2 s4 ha hcl
          generalize cnt zs2 m2 j = q at *
          have d1 : ((V2.length : Int) == 0) = false := by rw [beq_eq_false_iff_ne]; omega
          have HW := Lib.hid hbw
          clear hbw
          go_wp2_with fail
          refine X.out.mono ?_
          rintro e w2 ⟨v2, rfl, ho2, hb2⟩
          obtain ⟨A2, c2, rfl⟩ := own_slice ho2
          have HW2 := Lib.hid (HW.out.trans (hb2.mono HW.out.size))
          clear ho2 hb2 X
          generalize V2.length = p at *
          go_wp2_with fail
          go_roundw
          case rel => exact ⟨j + 1, by omega, by go_num, by rw [HS.out]; go_num, HW2.out⟩
          case measure => simp [intOf]; omega
        · obtain rfl : j = N := by omega
          have HB := Lib.hid (HB11.out.trans (hbw.mono HB11.out.size))
          clear hbw
          cases O
          · go_wp2_with fail
            go_ret
            exact ⟨rfl, HB.out⟩
          · have he := cnt_end HO.out
            rw [HN.out] at he
            rw [he]
            have e1 : ((m2 : Int) == (m2 : Int)) = true := by simp
            clear he hcl
            go_wp2_with fail
            go_ret
            exact ⟨rfl, HB.out⟩

theorem own : ownKnob Try.prog.godebug = none := by kernel_rfl
theorem laidOut : laidOutB Try.prog = true := by kernel_rfl

set_option maxRecDepth 100000 in
theorem lifted (os : Os) (started : os.Started) (H : Type) (enc : TypeId × Value → H) :
    ReturnsInHanded {} Try.checked os 3 .any (Rows.fnAddressesSpec.pre6 enc Try.prog Try.f3 Rows.fnAddressesRow.domain false) (Rows.fnAddressesSpec.post enc Try.prog Try.f3 false true false false) := by
  refine returnsInHanded_of_change (C := Try.checked) own started (by kernel_rfl) Try.func3
    (ChangeSpec.witness6 (enc := enc) (C := Try.checked) false ⟨#[], #[.slice none 0 0], []⟩ 8 (by kernel_rfl) (by kernel_rfl) (by kernel_rfl) (by kernel_rfl)) ?_
  intro W base args ds gs before hval0 hW hcnd _
  have hval : ∀ (j : Nat) t v, Try.f3.params[j]? = some t → args[j]? = some v → Value.okWide Try.prog W .any base t v := hval0
  have hW' := hW
  obtain ⟨p, q, hA0, hV, rfl, hfz, hnd⟩ := hW
  have hA : DataW.TrodAll enc Try.prog W 0 (fun _ => true) true Try.f3.params.toList args.toList ds p := hA0
  rw [Try.params3] at hA hval
  obtain ⟨v0, vs0, d0, ds0, p0, q0, hargs, rfl, rfl, h0, r0⟩ := trodAll_cons hA
  obtain ⟨rfl, rfl, rfl⟩ := trodAll_nil r0
  obtain rfl : args = #[v0] := by cases args; simp_all
  obtain ⟨rfl, rfl⟩ := trodVars_none hV
  obtain ⟨a0, len0, cap0, rfl⟩ := okWide_slice Try.underlying22 (hval 0 22 v0 rfl rfl)
  have k0 := h0
  have lt0 : ∀ x ∈ p0, x.block < W.heap.size := by obtain ⟨m, hm⟩ := k0; exact DataW.trod_lt m _ _ _ hm
  obtain ⟨z0, w0⟩ : ∃ zs, IsRow .u8 W a0 len0 cap0 zs := by
    obtain ⟨fuel, hf⟩ := h0
    rcases open_ints Try.underlying22 Try.underlying5 (by kernel_rfl) hf with ⟨hcs, _⟩ | ⟨x, l, c, zs, hcs, _, hl, hm, hz, _, hcell, hwz⟩
    · simp [Value.cells] at hcs
      obtain ⟨rfl, rfl, rfl⟩ := hcs
      exact ⟨[], .inl ⟨rfl, rfl, rfl, rfl⟩⟩
    · simp [Value.cells] at hcs
      obtain ⟨rfl, rfl, rfl⟩ := hcs
      exact ⟨zs, .inr ⟨_, rfl, hl, hm, by simpa using hz, hcell, hwz⟩⟩
  clear hA0 hval0
  refine (walk a0 len0 cap0 z0 W w0).mono fun e W' ⟨he, bel⟩ => ?_
  subst he
  exact ⟨_, rfl, _, _, _, [], _, [], hW', trodAll_mk1 (shut_bool Try.underlying4 _), (trodAll_cons_mk (Below.trod laidOut (by kernel_rfl) (of_decide_eq_true (by kernel_rfl)) k0 bel lt0) trodAll_mk0), rfl, bel.frame _, fun h => by cases h⟩

theorem over : Rows.fnAddressesRow.holds Try.pinned (OpenSpec.ofChange Rows.fnAddressesSpec) :=
  OpenClaim.holds_of_wide 3 Try.f3 rfl rfl rfl rfl rfl rfl rfl ⟨rfl, rfl, rfl, rfl, rfl⟩ rfl rfl rfl rfl rfl (by kernel_rfl) Try.func3 (by kernel_rfl)
    (of_decide_eq_true (by kernel_rfl)) (by unfold Func.isWrapper; first | (rw [if_pos (by decide +kernel)]; kernel_rfl) | (rw [if_neg (by decide +kernel)]; exact ⟨rfl, rfl⟩))
    (fun os started H enc _ => lifted os started H enc)

theorem proved : Rows.FnAddressesSaid :=
  over
#print axioms proved
end Go.Proofs.Ytpjpdfannnafbaa.fnAddresses
