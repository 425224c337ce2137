/- For every slice of Cleareds the law FnExactIsValidClearances returns true: impl.IsValidClearances and spec.IsValidClearances both tell whether it is a list of Cleareds; the argument is left as it was. No condition. -/
import Derived.Test.YtglonedhoenkpaaRows
import Derived.Test.YtglonedhoenkpaaLvlT
import Derived.Test.YtglonedhoenkpaaLvlC
import Derived.Test.YtglonedhoenkpaaIntC
import Derived.Test.YtglonedhoenkpaaLstO
import Derived.Test.YtglonedhoenkpaaLvlE
import Derived.WalkKit
import Derived.ProofKit
import Derived.OpenShut
import Derived.ShutString
import Derived.ChangeOld
import Derived.Below
import Derived.Lib.SmallJoins
import Derived.Lib.QuietBelow
import Derived.Deep.RegionHeld3
import Derived.Deep.CutRange
namespace Go.Proofs.Ytglonedhoenkpaa.fnExactIsValidClearances
open Go.ChangeShapes Go.WideShapes Go.ChangeAt Go.RowKit Go.Joins Go.Proofs.Ytglonedhoenkpaa.ats Go.Proofs.Ytglonedhoenkpaa.ints Go.Proofs.Ytglonedhoenkpaa.lst Go.Proofs.Ytglonedhoenkpaa.intc Go.Proofs.Ytglonedhoenkpaa.code_
open Go.ChangeMaps (open_string shut_string)
set_option linter.unusedVariables false

theorem bool_ne_self (b : Bool) : (b != b) = false := by simp
theorem int_ne_self (x : Int) : (x != x) = false := by simp

/-- The function f returns this. -/
def Gives (f : Nat) (z0 : List Int) (n0 : Nat) (O0 : Bool) : Prop := ∀ (A0 : Option Addr) (c0 : Nat) (w : World), n0 ≤ c0 → RdZ 5 w w.heap.size A0 n0 z0 → 
  Calls Try.prog f #[.slice A0 n0 c0] w fun e w' => e = .returned (.bool O0) ∧ Below w.heap.size w w'

set_option maxRecDepth 100000 in
set_option maxHeartbeats 8000000 in
theorem law_of (a0 : Option Addr) (c0 : Nat) (z0 : List Int) (n0 : Nat) (O0 : Bool) (w : World) (hn0 : n0 ≤ 1048576) (hr0 : RdZ 5 w w.heap.size a0 n0 z0)
    (hs : Gives 44 z0 n0 O0) (hi : Gives 23 z0 n0 O0) :
    Calls Try.prog 7 #[.slice a0 n0 c0] w fun e w' => e = .returned (.bool true) ∧ Below w.heap.size w w' := by
  have HZ0 := Lib.hid (fun w => lvle.sz a0 n0 c0 w (by unfold maxLen; omega))
  rw [if_pos hn0] at HZ0
  have d0 : decide ((1048576 : Int) - (n0 : Int) < 0) = false := decide_eq_false (by omega)
  have HC0 := Lib.hid (fun (w' : World) (hb : Below w.heap.size w w') => lvle.copyS z0 a0 n0 c0 w' hn0 (hr0.next hb))
  have HL0 := Lib.hid hr0.1
  have HS := Lib.hid (fun (A0 : Option Addr) (c0 : Nat) (w : World) (e0 : n0 ≤ c0) (h0 : RdZ 5 w w.heap.size A0 n0 z0) => hs A0 c0 w e0 h0)
  have HI := Lib.hid (fun (A0 : Option Addr) (c0 : Nat) (w : World) (e0 : n0 ≤ c0) (h0 : RdZ 5 w w.heap.size A0 n0 z0) => hi A0 c0 w e0 h0)
  have ne0 := bool_ne_self O0
  clear hs hi hr0
  go_enter Try.func7, Try.ntmps7
  go_wp2_with fail
  refine (HZ0.out w).mono ?_
  rintro e w' ⟨rfl, rfl⟩
  have AN1 := Lib.hid (Below.refl w.heap.size w)
  go_wp2_with fail
  refine (HC0.out w AN1.out).mono ?_
  rintro e V2 ⟨g5, rfl, ho4, h3⟩
  have AN6 := Lib.hid (AN1.out.trans (h3.mono AN1.out.size))
  clear AN1
  have rd7 := Lib.hid (RdZ.of_own ho4 HL0.out)
  clear h3 ho4
  go_wp2_with fail
  refine (HS.out _ _ V2 (Nat.le_refl _) rd7.out).mono ?_
  rintro e V8 ⟨rfl, h9⟩
  clear rd7
  have AN11 := Lib.hid (AN6.out.trans (h9.mono AN6.out.size))
  clear AN6
  clear h9
  go_wp2_with fail
  refine (HC0.out V8 AN11.out).mono ?_
  rintro e V12 ⟨g15, rfl, ho14, h13⟩
  have LE16 := Lib.hid AN11.out.size
  have AN17 := Lib.hid (AN11.out.trans (h13.mono AN11.out.size))
  clear AN11
  have rd18 := Lib.hid (RdZ.of_own ho14 HL0.out)
  have OW19 := Lib.hid ho14
  have LT20 := Lib.hid (own_row_lt ho14)
  have AN21 := Lib.hid (Below.refl V12.heap.size V12)
  clear h13 ho14
  have rd22 := Lib.hid (RdZ.of_own OW19.out HL0.out)
  have LE23 := Lib.hid AN17.out.size
  have LE24 := Lib.hid AN21.out.size
  go_wp2_with fail
  refine (HI.out _ _ V12 (Nat.le_refl _) rd22.out).mono ?_
  rintro e V25 ⟨rfl, h26⟩
  clear rd22
  have AN28 := Lib.hid (AN17.out.trans (h26.mono AN17.out.size))
  clear AN17
  have AN29 := Lib.hid (AN21.out.trans (h26.mono AN21.out.size))
  clear AN21
  have OW30 := Lib.hid (own_.own_below OW19.out h26)
  clear OW19
  clear h26
  clear AN29
  go_wp2_with fail
  refine (HC0.out V25 AN28.out).mono ?_
  rintro e V31 ⟨g34, rfl, ho33, h32⟩
  have AN35 := Lib.hid (AN28.out.trans (h32.mono AN28.out.size))
  clear AN28
  have OW36 := Lib.hid (own_.own_below OW30.out h32)
  clear OW30
  have rd37 := Lib.hid (RdZ.of_own ho33 HL0.out)
  clear h32 ho33
  have E38 := Lib.hid (lvle.eqS z0 _ _ n0 n0 n0 V31 (by omega) (RdZ.of_own OW36.out HL0.out) rd37.out)
  clear rd37
  go_wp2_with fail
  refine E38.out.mono ?_
  rintro e V39 ⟨rfl, h40⟩
  clear E38
  have AN41 := Lib.hid (AN35.out.trans (h40.mono AN35.out.size))
  clear AN35
  have OW42 := Lib.hid (own_.own_below OW36.out h40)
  clear OW36
  clear h40
  go_wp2_with fail
  go_ret
  exact ⟨rfl, AN41.out⟩

set_option maxRecDepth 100000 in
theorem walk (a0 : Option Addr) (n0 c0 : Nat) (z0 : List Int) (w : World) (w0 : RdZ 5 w w.heap.size a0 n0 z0) (l0 : n0 ≤ maxLen) :
    Calls Try.prog 7 #[.slice a0 n0 c0] w fun e w' => e = .returned (.bool true) ∧ Below w.heap.size w w' := by
  by_cases hn0 : n0 ≤ 1048576
  · skip
    exact law_of a0 c0 z0 n0 (lvl.cvB z0 n0) w hn0 w0
      (fun A0 c0 w hc0 h0 => lvlt.isValidClearances z0 A0 n0 c0 w (by omega) h0)
      (fun A0 c0 w hc0 h0 => lvlc.isValidClearances z0 A0 n0 c0 w hc0 (by omega) h0)
  · have HZ0 := Lib.hid (lvle.sz a0 n0 c0 w l0)
    rw [if_neg hn0] at HZ0
    clear w0 l0 hn0
    go_enter Try.func7, Try.ntmps7
    go_wp2_with fail
    refine (HZ0.out).mono ?_
    rintro e w' ⟨rfl, rfl⟩
    go_wp2_with fail
    go_ret
    exact ⟨rfl, Below.refl _ _⟩


theorem own : ownKnob Try.prog.godebug = none := by kernel_rfl
theorem laidOut : laidOutB Try.prog = true := by kernel_rfl

set_option maxRecDepth 100000 in
theorem lifted (os : Os) (started : os.Started) (H : Type) (enc : TypeId × Value → H) :
    ReturnsInHanded {} Try.checked os 7 .any (Rows.fnExactIsValidClearancesSpec.pre6 enc Try.prog Try.f7 Rows.fnExactIsValidClearancesRow.domain false) (Rows.fnExactIsValidClearancesSpec.post enc Try.prog Try.f7 false true false false) := by
  refine returnsInHanded_of_change (C := Try.checked) own started (by kernel_rfl) Try.func7
    (ChangeSpec.witness6 (enc := enc) (C := Try.checked) false ⟨#[], #[.slice none 0 0], []⟩ 8 (by kernel_rfl) (by kernel_rfl) (by kernel_rfl) (by kernel_rfl)) ?_
  intro W base args ds gs before hval0 hW hcnd _
  have hval : ∀ (j : Nat) t v, Try.f7.params[j]? = some t → args[j]? = some v → Value.okWide Try.prog W .any base t v := hval0
  have hW' := hW
  obtain ⟨p, q, hA0, hV, rfl, hfz, hnd⟩ := hW
  have hA : DataW.TrodAll enc Try.prog W 0 (fun _ => true) true Try.f7.params.toList args.toList ds p := hA0
  rw [Try.params7] at hA hval
  obtain ⟨v0, vs0, d0, ds0, p0, q0, hargs, rfl, rfl, h0, r0⟩ := trodAll_cons hA
  obtain ⟨rfl, rfl, rfl⟩ := trodAll_nil r0
  obtain rfl : args = #[v0] := by cases args; simp_all
  obtain ⟨rfl, rfl⟩ := trodVars_none hV
  obtain ⟨a0, len0, cap0, rfl⟩ := okWide_slice Try.underlying63 (hval 0 63 v0 rfl rfl)
  have k0 := h0
  have lt0 : ∀ x ∈ p0, x.block < W.heap.size := by obtain ⟨m, hm⟩ := k0; exact DataW.trod_lt m _ _ _ hm
  obtain ⟨z0, w0, n0⟩ : ∃ zs, lst.RdZ 5 W W.heap.size a0 len0 zs ∧ len0 ≤ maxLen := by
    obtain ⟨fuel, hf⟩ := h0
    obtain ⟨A, n, c, zs, hcs, hrd, hle⟩ := lsto.open_structs Try.underlying63 Try.underlying67 (by kernel_rfl) (by kernel_rfl) (by decide) (by
        intro j f hg
        match j, hg with
        | 0, hg => exact (Option.some.inj hg) ▸ Try.underlying3
        | 1, hg => exact (Option.some.inj hg) ▸ Try.underlying3
        | 2, hg => exact (Option.some.inj hg) ▸ Try.underlying3
        | 3, hg => exact (Option.some.inj hg) ▸ Try.underlying3
        | 4, hg => exact (Option.some.inj hg) ▸ Try.underlying3
        | q + 5, hg => exact absurd (Array.getElem?_eq_some_iff.1 hg).1 (by simp)) hf
    simp [Value.cells] at hcs
    obtain ⟨rfl, rfl, rfl⟩ := hcs
    exact ⟨zs, hrd, hle⟩
  clear hA0 hval0
  refine (walk a0 len0 cap0 z0 W w0 n0).mono fun e W' ⟨he, bel⟩ => ?_
  subst he
  exact ⟨_, rfl, _, _, _, [], _, [], hW', trodAll_mk1 (shut_bool Try.underlying4 _), (trodAll_cons_mk (Below.trod laidOut (by kernel_rfl) (of_decide_eq_true (by kernel_rfl)) k0 bel lt0) trodAll_mk0), rfl, bel.frame _, fun h => by cases h⟩

theorem over : Rows.fnExactIsValidClearancesRow.holds Try.pinned (OpenSpec.ofChange Rows.fnExactIsValidClearancesSpec) :=
  OpenClaim.holds_of_wide 7 Try.f7 rfl rfl rfl rfl rfl rfl rfl ⟨rfl, rfl, rfl, rfl, rfl⟩ rfl rfl rfl rfl rfl (by kernel_rfl) Try.func7 (by kernel_rfl)
    (of_decide_eq_true (by kernel_rfl)) (by unfold Func.isWrapper; first | (rw [if_pos (by decide +kernel)]; kernel_rfl) | (rw [if_neg (by decide +kernel)]; exact ⟨rfl, rfl⟩))
    (fun os started H enc _ => lifted os started H enc)

theorem proved : Rows.FnExactIsValidClearancesSaid :=
  over
#print axioms proved
end Go.Proofs.Ytglonedhoenkpaa.fnExactIsValidClearances
