/- For every code of at most 65536 bytes (and trivially for a longer one) the law FnParity returns true: what it draws are short strings, whatever the bytes are; a bit string with its parity is sound, without its last twelve bits it is the bit string again, and with any fifth bit flipped it is not sound and repaired at this very bit. No condition of mine. -/
import Derived.Test.YtdededldoamifaaRows
import Derived.Test.YtdededldoamifaaDrawQ
import Derived.Test.YtdededldoamifaaParQ
import Derived.Test.YtdededldoamifaaParM
import Derived.Test.YtdededldoamifaaCode
import Derived.WalkKit
import Derived.ProofKit
import Derived.OpenShut
import Derived.ShutString
import Derived.ChangeOld
import Derived.Below
namespace Go.Proofs.Ytdededldoamifaa.fnParity
open Go.ChangeShapes Go.WideShapes Go.ChangeAt Go.RowKit
open Go.ChangeMaps (open_string shut_string)
open Go.Proofs.Ytdededldoamifaa.code_ Go.Proofs.Ytdededldoamifaa.cur
set_option linter.unusedVariables false

theorem bool_ne_self (b : Bool) : (b != b) = false := by simp
theorem str_ne_self (x : ByteArray) : (!(x.toList == x.toList)) = false := by simp
theorem str_eq_self (x : ByteArray) : (x.toList == x.toList) = true := by simp
theorem int_ne_self (x : Int) : (x != x) = false := by simp
theorem int_eq_self (x : Int) : (x == x) = true := by simp

set_option maxRecDepth 100000 in
set_option maxHeartbeats 8000000 in
theorem walk (A : Option Addr) (n c : Nat) (z : List Int) (w : World) (w0 : IsRow .u8 w A n c z) :
    Calls Try.prog 3 #[.slice A n c] w fun e w' => e = .returned (.bool true) ∧ Below w.heap.size w w' := by
  obtain ⟨hby, hnc, -⟩ := bytes_of w0
  clear w0
  by_cases hbig : (65536 : Int) < (n : Int)
  · have hv := Lib.hid (fun w => vBig A n c w)
    clear hby
    go_enter Try.func3, Try.ntmps3
    go_wp2_with fail
    refine (hv.out _).mono ?_
    rintro e w1 ⟨rfl, rfl⟩
    go_wp2_with fail
    go_ret
    exact ⟨rfl, Below.refl _ _⟩
  · have hd : decide ((65536 : Int) < (n : Int)) = false := by simpa using hbig
    have hn : n ≤ 65536 := by omega
    have hv := Lib.hid (fun w => vBig A n c w)
    have H := Lib.hid hby
    clear hby hbig
    go_enter Try.func3, Try.ntmps3
    go_wp2_with fail
    refine (hv.out _).mono ?_
    rintro e w1 ⟨rfl, rfl⟩
    go_wp2_with fail
    refine (drawq.addParity A n c _ hn H.out).mono ?_
    rintro e w1 ⟨s, rfl, hs, hb1⟩
    have AI := Lib.hid (fun w => pari.addParity s w)
    have AS := Lib.hid (fun w => pars.addParity s w (by unfold maxLen; omega))
    have SE := Lib.hid (fun h => parm.sealed (s := s) h)
    cases hB : good_.rdB 2 52 s
    · rw [hB] at AI AS
      have hTT := str_ne_self (par.addT s)
      clear SE hB hs
      generalize par.addT s = T at *
      go_wp2_with fail
      refine (AI.out _).mono ?_
      rintro e w2 ⟨rfl, hb2⟩
      have hb2 := hb1.trans (hb2.mono hb1.size)
      go_wp2_with fail
      refine (AS.out _).mono ?_
      rintro e w3 ⟨rfl, rfl⟩
      have HB3 := Lib.hid hb2
      clear hb1 hb2 AI AS
      go_wp2_with fail
      refine (drawq.repairBit A n c _ hn (Bytes_below H.out HB3.out)).mono ?_
      rintro e w6 ⟨x, rfl, hx, hb6⟩
      have hb6 := HB3.out.trans (hb6.mono HB3.out.size)
      have XI := Lib.hid (fun w => parq.repairBit x w)
      have XS := Lib.hid (fun w => parr.repairBit x w (by unfold maxLen; omega))
      clear hx HB3
      have hXX := str_eq_self (par.repT x)
      have hII := int_eq_self (par.repI x)
      generalize par.repT x = X at *
      generalize par.repI x = I at *
      generalize par.repB x = b at *
      cases b
      · go_wp2_with fail
        refine (XI.out _).mono ?_
        rintro e w7 ⟨rfl, hb7⟩
        have hb7 := hb6.trans (hb7.mono hb6.size)
        go_wp2_with fail
        refine (XS.out _).mono ?_
        rintro e w8 ⟨rfl, hb8⟩
        have hb8 := hb7.trans (hb8.mono hb7.size)
        go_wp2_with fail
        go_ret
        exact ⟨rfl, hb8⟩
      · go_wp2_with fail
        refine (XI.out _).mono ?_
        rintro e w7 ⟨rfl, hb7⟩
        have hb7 := hb6.trans (hb7.mono hb6.size)
        go_wp2_with fail
        refine (XS.out _).mono ?_
        rintro e w8 ⟨rfl, hb8⟩
        have hb8 := hb7.trans (hb8.mono hb7.size)
        go_wp2_with fail
        go_ret
        exact ⟨rfl, hb8⟩
    · obtain ⟨q1, q2, q3, q4⟩ := SE.out hB
      have hT : par.addT s = s ++ par.parL s := by unfold par.addT; rw [hB]; rfl
      rw [hB, hT] at AI AS
      have hV : par.sndV (s ++ par.parL s) = true := by unfold par.sndV; rw [q1, decide_eq_true q2]; rfl
      have BR := Lib.hid (fun i hi => parm.broken (i := i) q1 q2 hi)
      have IS := Lib.hid (fun w => pari.isSound (s ++ par.parL s) w)
      have ST := Lib.hid (fun w => pari.stripParity (s ++ par.parL s) w)
      rw [hV, q1] at IS
      rw [hV, q3] at ST
      clear SE hB q1 q2 q3 hT hV
      generalize s ++ par.parL s = t at *
      have q4i : (t.size : Int) ≤ 64 := by omega
      have hTT := str_ne_self t
      have hss := str_ne_self s
      go_wp2_with fail
      refine (AI.out _).mono ?_
      rintro e w2 ⟨rfl, hb2⟩
      have hb2 := hb1.trans (hb2.mono hb1.size)
      go_wp2_with fail
      refine (AS.out _).mono ?_
      rintro e w3 ⟨rfl, rfl⟩
      go_wp2_with fail
      refine (IS.out _).mono ?_
      rintro e w3 ⟨rfl, rfl⟩
      go_wp2_with fail
      refine (ST.out _).mono ?_
      rintro e w3 ⟨rfl, rfl⟩
      have HB2 := Lib.hid hb2
      clear hb1 hb2 AI AS IS ST
      go_wp2_with fail
      go_loopw [12, 13, 14, 15, 16, 17, 18, 19] (fun i _ _ _ _ _ _ _ wr => ∃ k : Nat, k ≤ t.size + 5 ∧ i = .int .i64 k ∧ Below w.heap.size w wr) (fun i _ _ _ _ _ _ _ _ => t.size + 5 - (intOf i).toNat)
      case atStart => exact ⟨0, Nat.zero_le _, rfl, HB2.out⟩
      case round =>
        obtain ⟨k, hk, rfl, hbw⟩ := hrel
        clear HB2
        by_cases hlt : k < t.size
        · obtain ⟨k1, k2, k3, k4, k5, k6, k7⟩ := BR.out k hlt
          have FI := Lib.hid (fun w => bitsi.flipBit t k w)
          have RI := Lib.hid (fun w => parq.repairBit (good_.flipT t k) w)
          have II := Lib.hid (fun w => pari.isSound (good_.flipT t k) w)
          rw [k1, k2] at FI
          rw [k5, k6, k7] at RI
          rw [k3, k4] at II
          have hlt2 : (k : Int) < (t.size : Int) := by omega
          have hkk := int_ne_self (k : Int)
          clear k1 k2 k3 k4 k5 k6 k7
          generalize good_.flipT t k = u at *
          go_wp2_with fail
          refine (FI.out _).mono ?_
          rintro e w3 ⟨rfl, hb3⟩
          have hb3 := hbw.trans (hb3.mono hbw.size)
          go_wp2_with fail
          refine (RI.out _).mono ?_
          rintro e w4 ⟨rfl, hb4⟩
          have hb4 := hb3.trans (hb4.mono hb3.size)
          go_wp2_with fail
          refine (II.out _).mono ?_
          rintro e w5 ⟨rfl, rfl⟩
          clear hbw hb3
          go_wp2_with fail
          go_roundw
          case rel => exact ⟨k + 5, by omega, by go_num, hb4⟩
          case measure => simp [intOf]; omega
        · have hge : (t.size : Int) ≤ (k : Int) := by omega
          have HB3 := Lib.hid hbw
          clear hbw BR
          go_wp2_with fail
          refine (drawq.repairBit A n c _ hn (Bytes_below H.out HB3.out)).mono ?_
          rintro e w6 ⟨x, rfl, hx, hb6⟩
          have hb6 := HB3.out.trans (hb6.mono HB3.out.size)
          have XI := Lib.hid (fun w => parq.repairBit x w)
          have XS := Lib.hid (fun w => parr.repairBit x w (by unfold maxLen; omega))
          clear hx HB3
          have hXX := str_eq_self (par.repT x)
          have hII := int_eq_self (par.repI x)
          generalize par.repT x = X at *
          generalize par.repI x = I at *
          generalize par.repB x = b at *
          cases b
          · go_wp2_with fail
            refine (XI.out _).mono ?_
            rintro e w7 ⟨rfl, hb7⟩
            have hb7 := hb6.trans (hb7.mono hb6.size)
            go_wp2_with fail
            refine (XS.out _).mono ?_
            rintro e w8 ⟨rfl, hb8⟩
            have hb8 := hb7.trans (hb8.mono hb7.size)
            go_wp2_with fail
            go_ret
            exact ⟨rfl, hb8⟩
          · go_wp2_with fail
            refine (XI.out _).mono ?_
            rintro e w7 ⟨rfl, hb7⟩
            have hb7 := hb6.trans (hb7.mono hb6.size)
            go_wp2_with fail
            refine (XS.out _).mono ?_
            rintro e w8 ⟨rfl, hb8⟩
            have hb8 := hb7.trans (hb8.mono hb7.size)
            go_wp2_with fail
            go_ret
            exact ⟨rfl, hb8⟩


theorem own : ownKnob Try.prog.godebug = none := by kernel_rfl
theorem laidOut : laidOutB Try.prog = true := by kernel_rfl

set_option maxRecDepth 100000 in
theorem lifted (os : Os) (started : os.Started) (H : Type) (enc : TypeId × Value → H) :
    ReturnsInHanded {} Try.checked os 3 .any (Rows.fnParitySpec.pre6 enc Try.prog Try.f3 Rows.fnParityRow.domain false) (Rows.fnParitySpec.post enc Try.prog Try.f3 false true false false) := by
  refine returnsInHanded_of_change (C := Try.checked) own started (by kernel_rfl) Try.func3
    (ChangeSpec.witness6 (enc := enc) (C := Try.checked) false ⟨#[], #[.slice none 0 0], []⟩ 8 (by kernel_rfl) (by kernel_rfl) (by kernel_rfl) (by kernel_rfl)) ?_
  intro W base args ds gs before hval0 hW hcnd _
  have hval : ∀ (j : Nat) t v, Try.f3.params[j]? = some t → args[j]? = some v → Value.okWide Try.prog W .any base t v := hval0
  have hW' := hW
  obtain ⟨p, q, hA0, hV, rfl, hfz, hnd⟩ := hW
  have hA : DataW.TrodAll enc Try.prog W 0 (fun _ => true) true Try.f3.params.toList args.toList ds p := hA0
  rw [Try.params3] at hA hval
  obtain ⟨v0, vs0, d0, ds0, p0, q0, hargs, rfl, rfl, h0, r0⟩ := trodAll_cons hA
  obtain ⟨rfl, rfl, rfl⟩ := trodAll_nil r0
  obtain rfl : args = #[v0] := by cases args; simp_all
  obtain ⟨rfl, rfl⟩ := trodVars_none hV
  obtain ⟨a0, len0, cap0, rfl⟩ := okWide_slice Try.underlying22 (hval 0 22 v0 rfl rfl)
  have k0 := h0
  have lt0 : ∀ x ∈ p0, x.block < W.heap.size := by obtain ⟨m, hm⟩ := k0; exact DataW.trod_lt m _ _ _ hm
  obtain ⟨z0, w0⟩ : ∃ zs, IsRow .u8 W a0 len0 cap0 zs := by
    obtain ⟨fuel, hf⟩ := h0
    rcases open_ints Try.underlying22 Try.underlying5 (by kernel_rfl) hf with ⟨hcs, _⟩ | ⟨x, l, c, zs, hcs, _, hl, hm, hz, _, hcell, hwz⟩
    · simp [Value.cells] at hcs
      obtain ⟨rfl, rfl, rfl⟩ := hcs
      exact ⟨[], .inl ⟨rfl, rfl, rfl, rfl⟩⟩
    · simp [Value.cells] at hcs
      obtain ⟨rfl, rfl, rfl⟩ := hcs
      exact ⟨zs, .inr ⟨_, rfl, hl, hm, by simpa using hz, hcell, hwz⟩⟩
  clear hA0 hval0
  refine (walk a0 len0 cap0 z0 W w0).mono fun e W' ⟨he, bel⟩ => ?_
  subst he
  exact ⟨_, rfl, _, _, _, [], _, [], hW', trodAll_mk1 (shut_bool Try.underlying4 _), (trodAll_cons_mk (Below.trod laidOut (by kernel_rfl) (of_decide_eq_true (by kernel_rfl)) k0 bel lt0) trodAll_mk0), rfl, bel.frame _, fun h => by cases h⟩

theorem over : Rows.fnParityRow.holds Try.pinned (OpenSpec.ofChange Rows.fnParitySpec) :=
  OpenClaim.holds_of_wide 3 Try.f3 rfl rfl rfl rfl rfl rfl rfl ⟨rfl, rfl, rfl, rfl, rfl⟩ rfl rfl rfl rfl rfl (by kernel_rfl) Try.func3 (by kernel_rfl)
    (of_decide_eq_true (by kernel_rfl)) (by unfold Func.isWrapper; first | (rw [if_pos (by decide +kernel)]; kernel_rfl) | (rw [if_neg (by decide +kernel)]; exact ⟨rfl, rfl⟩))
    (fun os started H enc _ => lifted os started H enc)

theorem proved : Rows.FnParitySaid :=
  over
#print axioms proved
end Go.Proofs.Ytdededldoamifaa.fnParity
