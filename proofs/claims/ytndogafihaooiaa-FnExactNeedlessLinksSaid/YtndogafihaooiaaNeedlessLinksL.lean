/- For every int and every slice of links the law FnExactNeedlessLinks returns true: impl.NeedlessLinks and spec.NeedlessLinks return the same number and true, or both 0 and false; the argument is left as it was. No condition. -/
import Derived.Test.YtndogafihaooiaaRows
import Derived.Test.YtndogafihaooiaaLnkX
import Derived.Test.YtndogafihaooiaaLnkI
import Derived.Test.YtndogafihaooiaaLnkE
import Derived.Test.YtndogafihaooiaaIntC
import Derived.Test.YtndogafihaooiaaLstO
import Derived.Test.YtndogafihaooiaaClkE
import Derived.WalkKit
import Derived.ProofKit
import Derived.OpenShut
import Derived.ShutString
import Derived.ChangeOld
import Derived.Below
import Derived.Lib.SmallJoins
import Derived.Lib.QuietBelow
import Derived.Deep.RegionHeld3
import Derived.Deep.CutRange
namespace Go.Proofs.Ytndogafihaooiaa.fnExactNeedlessLinks
open Go.ChangeShapes Go.WideShapes Go.ChangeAt Go.RowKit Go.Joins Go.Proofs.Ytndogafihaooiaa.ats Go.Proofs.Ytndogafihaooiaa.ints Go.Proofs.Ytndogafihaooiaa.lst Go.Proofs.Ytndogafihaooiaa.intc Go.Proofs.Ytndogafihaooiaa.code_
open Go.ChangeMaps (open_string shut_string)
set_option linter.unusedVariables false

theorem bool_ne_self (b : Bool) : (b != b) = false := by simp
theorem int_ne_self (x : Int) : (x != x) = false := by simp

/-- The function f returns this. -/
def Gives (f : Nat) (z1 : List Int) (n1 : Nat) (a0 : Int) (O0 : Int) (O1 : Bool) : Prop := ∀ (A1 : Option Addr) (c1 : Nat) (w : World), n1 ≤ c1 → RdZ 3 w w.heap.size A1 n1 z1 → 
  Calls Try.prog f #[.int .i64 a0, .slice A1 n1 c1] w fun e w' => e = .returned (.tuple #[.int .i64 O0, .bool O1]) ∧ Below w.heap.size w w'

set_option maxRecDepth 100000 in
set_option maxHeartbeats 8000000 in
theorem law_of (a1 : Option Addr) (c1 : Nat) (z1 : List Int) (n1 : Nat) (a0 : Int) (O0 : Int) (O1 : Bool) (w : World) (hn1 : n1 ≤ 1048576) (hr1 : RdZ 3 w w.heap.size a1 n1 z1)
    (hs : Gives 35 z1 n1 a0 O0 O1) (hi : Gives 34 z1 n1 a0 O0 O1) :
    Calls Try.prog 12 #[.int .i64 a0, .slice a1 n1 c1] w fun e w' => e = .returned (.bool true) ∧ Below w.heap.size w w' := by
  have HZ1 := Lib.hid (fun w => lnke.sz a1 n1 c1 w (by unfold maxLen; omega))
  rw [if_pos hn1] at HZ1
  have d1 : decide ((1048576 : Int) - (n1 : Int) < 0) = false := decide_eq_false (by omega)
  have HC1 := Lib.hid (fun (w' : World) (hb : Below w.heap.size w w') => lnke.copyS z1 a1 n1 c1 w' hn1 (hr1.next hb))
  have HL1 := Lib.hid hr1.1
  have HS := Lib.hid (fun (A1 : Option Addr) (c1 : Nat) (w : World) (e1 : n1 ≤ c1) (h1 : RdZ 3 w w.heap.size A1 n1 z1) => hs A1 c1 w e1 h1)
  have HI := Lib.hid (fun (A1 : Option Addr) (c1 : Nat) (w : World) (e1 : n1 ≤ c1) (h1 : RdZ 3 w w.heap.size A1 n1 z1) => hi A1 c1 w e1 h1)
  have ne0 := int_ne_self O0
  have ne1 := bool_ne_self O1
  clear hs hi hr1
  go_enter Try.func12, Try.ntmps12
  go_wp2_with fail
  refine (HZ1.out w).mono ?_
  rintro e w' ⟨rfl, rfl⟩
  have AN1 := Lib.hid (Below.refl w.heap.size w)
  go_wp2_with fail
  refine (HC1.out w AN1.out).mono ?_
  rintro e V2 ⟨g5, rfl, ho4, h3⟩
  have AN6 := Lib.hid (AN1.out.trans (h3.mono AN1.out.size))
  clear AN1
  have rd7 := Lib.hid (RdZ.of_own ho4 HL1.out)
  clear h3 ho4
  go_wp2_with fail
  refine (HS.out _ _ V2 (Nat.le_refl _) rd7.out).mono ?_
  rintro e V8 ⟨rfl, h9⟩
  clear rd7
  have AN11 := Lib.hid (AN6.out.trans (h9.mono AN6.out.size))
  clear AN6
  clear h9
  go_wp2_with fail
  refine (HC1.out V8 AN11.out).mono ?_
  rintro e V12 ⟨g15, rfl, ho14, h13⟩
  have LE16 := Lib.hid AN11.out.size
  have AN17 := Lib.hid (AN11.out.trans (h13.mono AN11.out.size))
  clear AN11
  have rd18 := Lib.hid (RdZ.of_own ho14 HL1.out)
  have OW19 := Lib.hid ho14
  have LT20 := Lib.hid (own_row_lt ho14)
  have AN21 := Lib.hid (Below.refl V12.heap.size V12)
  clear h13 ho14
  have rd22 := Lib.hid (RdZ.of_own OW19.out HL1.out)
  have LE23 := Lib.hid AN17.out.size
  have LE24 := Lib.hid AN21.out.size
  go_wp2_with fail
  refine (HI.out _ _ V12 (Nat.le_refl _) rd22.out).mono ?_
  rintro e V25 ⟨rfl, h26⟩
  clear rd22
  have AN28 := Lib.hid (AN17.out.trans (h26.mono AN17.out.size))
  clear AN17
  have AN29 := Lib.hid (AN21.out.trans (h26.mono AN21.out.size))
  clear AN21
  have OW30 := Lib.hid (own_.own_below OW19.out h26)
  clear OW19
  clear h26
  clear AN29
  go_wp2_with fail
  refine (HC1.out V25 AN28.out).mono ?_
  rintro e V31 ⟨g34, rfl, ho33, h32⟩
  have AN35 := Lib.hid (AN28.out.trans (h32.mono AN28.out.size))
  clear AN28
  have OW36 := Lib.hid (own_.own_below OW30.out h32)
  clear OW30
  have rd37 := Lib.hid (RdZ.of_own ho33 HL1.out)
  clear h32 ho33
  have E38 := Lib.hid (lnke.eqS z1 _ _ n1 n1 n1 V31 (by omega) (RdZ.of_own OW36.out HL1.out) rd37.out)
  clear rd37
  go_wp2_with fail
  refine E38.out.mono ?_
  rintro e V39 ⟨rfl, h40⟩
  clear E38
  have AN41 := Lib.hid (AN35.out.trans (h40.mono AN35.out.size))
  clear AN35
  have OW42 := Lib.hid (own_.own_below OW36.out h40)
  clear OW36
  clear h40
  go_wp2_with fail
  go_ret
  exact ⟨rfl, AN41.out⟩

set_option maxRecDepth 100000 in
theorem walk (a0 : Int) (a1 : Option Addr) (n1 c1 : Nat) (z1 : List Int) (w : World) (w0 : (Lit.int .i64 a0).wf = true) (w1 : RdZ 3 w w.heap.size a1 n1 z1) (l1 : n1 ≤ maxLen) :
    Calls Try.prog 12 #[.int .i64 a0, .slice a1 n1 c1] w fun e w' => e = .returned (.bool true) ∧ Below w.heap.size w w' := by
  by_cases hn1 : n1 ≤ 1048576
  · skip
    exact law_of a1 c1 z1 n1 a0 (lnk.ndV z1 a0 n1) (lnk.lkB z1 a0 n1) w hn1 w1
      (fun A1 c1 w hc1 h1 => lnkx.needlessLinks a0 z1 A1 n1 c1 w hc1 hn1 h1)
      (fun A1 c1 w hc1 h1 => lnki.needlessLinks a0 z1 A1 n1 c1 w hc1 hn1 h1)
  · have HZ1 := Lib.hid (lnke.sz a1 n1 c1 w l1)
    rw [if_neg hn1] at HZ1
    clear w0 w1 l1 hn1
    go_enter Try.func12, Try.ntmps12
    go_wp2_with fail
    refine (HZ1.out).mono ?_
    rintro e w' ⟨rfl, rfl⟩
    go_wp2_with fail
    go_ret
    exact ⟨rfl, Below.refl _ _⟩


theorem own : ownKnob Try.prog.godebug = none := by kernel_rfl
theorem laidOut : laidOutB Try.prog = true := by kernel_rfl

set_option maxRecDepth 100000 in
theorem lifted (os : Os) (started : os.Started) (H : Type) (enc : TypeId × Value → H) :
    ReturnsInHanded {} Try.checked os 12 .any (Rows.fnExactNeedlessLinksSpec.pre6 enc Try.prog Try.f12 Rows.fnExactNeedlessLinksRow.domain false) (Rows.fnExactNeedlessLinksSpec.post enc Try.prog Try.f12 false true false false) := by
  refine returnsInHanded_of_change (C := Try.checked) own started (by kernel_rfl) Try.func12
    (ChangeSpec.witness6 (enc := enc) (C := Try.checked) false ⟨#[], #[.int .i64 0, .slice none 0 0], []⟩ 8 (by kernel_rfl) (by kernel_rfl) (by kernel_rfl) (by kernel_rfl)) ?_
  intro W base args ds gs before hval0 hW hcnd _
  have hval : ∀ (j : Nat) t v, Try.f12.params[j]? = some t → args[j]? = some v → Value.okWide Try.prog W .any base t v := hval0
  have hW' := hW
  obtain ⟨p, q, hA0, hV, rfl, hfz, hnd⟩ := hW
  have hA : DataW.TrodAll enc Try.prog W 0 (fun _ => true) true Try.f12.params.toList args.toList ds p := hA0
  rw [Try.params12] at hA hval
  obtain ⟨v0, vs0, d0, ds0, p0, q0, hargs, rfl, rfl, h0, r0⟩ := trodAll_cons hA
  obtain ⟨v1, vs1, d1, ds1, p1, q1, rfl, rfl, rfl, h1, r1⟩ := trodAll_cons r0
  obtain ⟨rfl, rfl, rfl⟩ := trodAll_nil r1
  obtain rfl : args = #[v0, v1] := by cases args; simp_all
  obtain ⟨rfl, rfl⟩ := trodVars_none hV
  obtain ⟨a0, rfl, rfl, rfl, w0⟩ := open_int Try.underlying3 (hval 0 3 v0 rfl rfl) h0
  obtain ⟨a1, len1, cap1, rfl⟩ := okWide_slice Try.underlying62 (hval 1 62 v1 rfl rfl)
  have k1 := h1
  have lt1 : ∀ x ∈ p1, x.block < W.heap.size := by obtain ⟨m, hm⟩ := k1; exact DataW.trod_lt m _ _ _ hm
  obtain ⟨z1, w1, n1⟩ : ∃ zs, lst.RdZ 3 W W.heap.size a1 len1 zs ∧ len1 ≤ maxLen := by
    obtain ⟨fuel, hf⟩ := h1
    obtain ⟨A, n, c, zs, hcs, hrd, hle⟩ := lsto.open_structs Try.underlying62 Try.underlying68 (by kernel_rfl) (by kernel_rfl) (by decide) (by
        intro j f hg
        match j, hg with
        | 0, hg => exact (Option.some.inj hg) ▸ Try.underlying3
        | 1, hg => exact (Option.some.inj hg) ▸ Try.underlying3
        | 2, hg => exact (Option.some.inj hg) ▸ Try.underlying3
        | q + 3, hg => exact absurd (Array.getElem?_eq_some_iff.1 hg).1 (by simp)) hf
    simp [Value.cells] at hcs
    obtain ⟨rfl, rfl, rfl⟩ := hcs
    exact ⟨zs, hrd, hle⟩
  clear hA0 hval0
  refine (walk a0 a1 len1 cap1 z1 W w0 w1 n1).mono fun e W' ⟨he, bel⟩ => ?_
  subst he
  exact ⟨_, rfl, _, _, _, [], _, [], hW', trodAll_mk1 (shut_bool Try.underlying4 _), (trodAll_cons_mk (shut_int Try.underlying3 w0) (trodAll_cons_mk (Below.trod laidOut (by kernel_rfl) (of_decide_eq_true (by kernel_rfl)) k1 bel lt1) trodAll_mk0)), rfl, bel.frame _, fun h => by cases h⟩

theorem over : Rows.fnExactNeedlessLinksRow.holds Try.pinned (OpenSpec.ofChange Rows.fnExactNeedlessLinksSpec) :=
  OpenClaim.holds_of_wide 12 Try.f12 rfl rfl rfl rfl rfl rfl rfl ⟨rfl, rfl, rfl, rfl, rfl⟩ rfl rfl rfl rfl rfl (by kernel_rfl) Try.func12 (by kernel_rfl)
    (of_decide_eq_true (by kernel_rfl)) (by unfold Func.isWrapper; first | (rw [if_pos (by decide +kernel)]; kernel_rfl) | (rw [if_neg (by decide +kernel)]; exact ⟨rfl, rfl⟩))
    (fun os started H enc _ => lifted os started H enc)

theorem proved : Rows.FnExactNeedlessLinksSaid :=
  over
#print axioms proved
end Go.Proofs.Ytndogafihaooiaa.fnExactNeedlessLinks
