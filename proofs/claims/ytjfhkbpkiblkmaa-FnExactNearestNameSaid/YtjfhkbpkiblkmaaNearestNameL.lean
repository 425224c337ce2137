/- For every slice of strings and every string the law FnExactNearestName returns true: impl.NearestName and spec.NearestName return the same index and number of places, or both 0, 0 and false; the slice reads as it did. No condition of mine. -/
import Derived.Test.YtjfhkbpkiblkmaaRows
import Derived.Test.YtjfhkbpkiblkmaaNamN
import Derived.WalkKit
import Derived.ProofKit
import Derived.OpenShut
import Derived.ShutString
import Derived.ChangeOld
import Derived.SliceStrings
import Derived.Below
namespace Go.Proofs.Ytjfhkbpkiblkmaa.fnExactNearestName
open Go.ChangeShapes Go.WideShapes Go.ChangeAt Go.RowKit Go.ChangeMaps
open Go.Proofs.Ytjfhkbpkiblkmaa.strs
set_option linter.unusedVariables false

set_option maxHeartbeats 1000000 in
theorem walk (A : Option Addr) (n c : Nat) (xs : List ByteArray) (sep : ByteArray) (w : World) (w0 : IsStrs w A n xs) (w1 : sep.size ≤ maxLen) :
    Calls Try.prog 8 #[.slice A n c, .string sep] w fun e w' => e = .returned (.bool true) ∧ Below w.heap.size w w' := by
  have HM := Lib.hid w1
  clear w1
  obtain ⟨hrd, hn, hx⟩ := w0
  by_cases k1 : (1048576 : Int) < (sep.size : Int)
  · clear hrd hx hn
    go_enter Try.func8, Try.ntmps8
    go_wp2
    go_ret
    exact ⟨rfl, Below.refl _ _⟩
  · have HZ := Lib.hid (sz xs A n c w hn hx hrd)
    have HR := Lib.hid hrd
    clear hrd hx hn
    go_enter Try.func8, Try.ntmps8
    go_wp2_with fail
    refine HZ.out.mono ?_
    rintro e w' ⟨r, rfl, hsm, hr1, rfl⟩
    rcases hsm with hneg | ⟨hpos, hw⟩
    · go_wp2_with fail
      go_ret
      exact ⟨rfl, Below.refl _ _⟩
    · have hwg := weight_ge xs
      have hl := HR.out.1
      have hn2 : n ≤ 1048576 := by omega
      have HL := Lib.hid hl
      have HW := Lib.hid hw
      clear hwg hl hw
      go_wp2_with fail
      refine (copyS xs A n c w hn2 HR.out).mono ?_
      rintro e w1 ⟨g1, rfl, ho1, hb1⟩
      have r1 := Rd.of_own (n := n) (by rw [HL.out]; exact ho1) HL.out.symm
      go_wp2_with fail
      refine (namn.specNear xs _ n n sep w1 HW.out HM.out r1).mono ?_
      rintro e w2 ⟨rfl, hb2⟩
      have hb02 := hb1.trans (hb2.mono hb1.size)
      go_wp2_with fail
      refine (copyS xs A n c w2 hn2 ((HR.out.below hb02 (Nat.le_refl _)).more hb02.size)).mono ?_
      rintro e w3 ⟨g3, rfl, ho3, hb3⟩
      have r3 := Rd.of_own (n := n) (by rw [HL.out]; exact ho3) HL.out.symm
      have hb03 := hb02.trans (hb3.mono hb02.size)
      have HI := Lib.hid (namn.implNear xs _ n n sep w3 r3)
      generalize nam.nrI xs sep = r1 at *
      generalize nam.nrV xs sep = r2 at *
      generalize nam.nrB xs sep = b at *
      go_wp2_with fail
      refine HI.out.mono ?_
      rintro e w4 ⟨rfl, hb4⟩
      have hb04 := hb03.trans (hb4.mono hb03.size)
      go_wp2_with fail
      refine (copyS xs A n c w4 hn2 ((HR.out.below hb04 (Nat.le_refl _)).more hb04.size)).mono ?_
      rintro e w5 ⟨g5, rfl, ho5, hb5⟩
      have r5 := Rd.of_own (n := n) (by rw [HL.out]; exact ho5) HL.out.symm
      have hb45 := hb4.trans (hb5.mono hb4.size)
      go_wp2_with fail
      refine (eq_same xs _ _ n n n w5 (by omega) ((r3.below hb45 (Nat.le_refl _)).more hb45.size) r5).mono ?_
      rintro e w6 ⟨rfl, j, rfl⟩
      go_wp2_with fail
      go_ret
      exact ⟨rfl, aid.below_drewN (hb04.trans (hb5.mono hb04.size)) j⟩

theorem own : ownKnob Try.prog.godebug = none := by kernel_rfl
theorem laidOut : laidOutB Try.prog = true := by kernel_rfl

set_option maxRecDepth 100000 in
theorem lifted (os : Os) (started : os.Started) (H : Type) (enc : TypeId × Value → H) :
    ReturnsInHanded {} Try.checked os 8 .any (Rows.fnExactNearestNameSpec.pre6 enc Try.prog Try.f8 Rows.fnExactNearestNameRow.domain false) (Rows.fnExactNearestNameSpec.post enc Try.prog Try.f8 false true false false) := by
  refine returnsInHanded_of_change (C := Try.checked) own started (by kernel_rfl) Try.func8
    (ChangeSpec.witness6 (enc := enc) (C := Try.checked) false ⟨#[], #[.slice none 0 0, .string ByteArray.empty], []⟩ 8 (by kernel_rfl) (by kernel_rfl) (by kernel_rfl) (by kernel_rfl)) ?_
  intro W base args ds gs before hval0 hW hcnd _
  have hval : ∀ (j : Nat) t v, Try.f8.params[j]? = some t → args[j]? = some v → Value.okWide Try.prog W .any base t v := hval0
  have hW' := hW
  obtain ⟨p, q, hA0, hV, rfl, hfz, hnd⟩ := hW
  have hA : DataW.TrodAll enc Try.prog W 0 (fun _ => true) true Try.f8.params.toList args.toList ds p := hA0
  rw [Try.params8] at hA hval
  obtain ⟨v0, vs0, d0, ds0, p0, q0, hargs, rfl, rfl, h0, r0⟩ := trodAll_cons hA
  obtain ⟨v1, vs1, d1, ds1, p1, q1, rfl, rfl, rfl, h1, r1⟩ := trodAll_cons r0
  obtain ⟨rfl, rfl, rfl⟩ := trodAll_nil r1
  obtain rfl : args = #[v0, v1] := by cases args; simp_all
  obtain ⟨rfl, rfl⟩ := trodVars_none hV
  obtain ⟨a0, len0, cap0, rfl⟩ := okWide_slice Try.underlying33 (hval 0 33 v0 rfl rfl)
  have k0 := h0
  have lt0 : ∀ x ∈ p0, x.block < W.heap.size := by obtain ⟨m, hm⟩ := k0; exact DataW.trod_lt m _ _ _ hm
  obtain ⟨z0, w0⟩ : ∃ xs, strs.IsStrs W a0 len0 xs := by
    obtain ⟨fuel, hf⟩ := h0
    rcases open_strings Try.underlying33 Try.underlying9 (by kernel_rfl) hf with ⟨hcs, _⟩ | ⟨x, l, c, ss, hcs, _, hl, hm, hlen, _, hcell, hws⟩
    · simp [Value.cells] at hcs
      obtain ⟨rfl, rfl, rfl⟩ := hcs
      exact ⟨[], strs.isStrs_nil W⟩
    · simp [Value.cells] at hcs
      obtain ⟨rfl, rfl, rfl⟩ := hcs
      exact ⟨_, strs.isStrs_of hl hm (by simpa using hlen) hcell hws⟩
  obtain ⟨a1, rfl, rfl, rfl, w1⟩ := open_string Try.underlying9 (hval 1 9 v1 rfl rfl) h1
  clear hA0 hval0
  refine (walk a0 len0 cap0 z0 a1 W w0 w1).mono fun e W' ⟨he, bel⟩ => ?_
  subst he
  exact ⟨_, rfl, _, _, _, [], _, [], hW', trodAll_mk1 (shut_bool Try.underlying4 _), (trodAll_cons_mk (Below.trod laidOut (by kernel_rfl) (of_decide_eq_true (by kernel_rfl)) k0 bel lt0) (trodAll_cons_mk (shut_string Try.underlying9 w1) trodAll_mk0)), rfl, bel.frame _, fun h => by cases h⟩

theorem over : Rows.fnExactNearestNameRow.holds Try.pinned (OpenSpec.ofChange Rows.fnExactNearestNameSpec) :=
  OpenClaim.holds_of_wide 8 Try.f8 rfl rfl rfl rfl rfl rfl rfl ⟨rfl, rfl, rfl, rfl, rfl⟩ rfl rfl rfl rfl rfl (by kernel_rfl) Try.func8 (by kernel_rfl)
    (of_decide_eq_true (by kernel_rfl)) (by unfold Func.isWrapper; first | (rw [if_pos (by decide +kernel)]; kernel_rfl) | (rw [if_neg (by decide +kernel)]; exact ⟨rfl, rfl⟩))
    (fun os started H enc _ => lifted os started H enc)

theorem proved : Rows.FnExactNearestNameSaid :=
  over
#print axioms proved
end Go.Proofs.Ytjfhkbpkiblkmaa.fnExactNearestName
