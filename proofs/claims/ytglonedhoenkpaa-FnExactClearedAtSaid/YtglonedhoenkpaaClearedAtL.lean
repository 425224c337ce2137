/- For every slice of Cleareds and all other arguments the law FnExactClearedAt returns true: impl.ClearedAt and spec.ClearedAt return the same Lower, Upper and true, or both 0, 0 and false; the arguments are left as they were. No condition. -/
import Derived.Test.YtglonedhoenkpaaRows
import Derived.Test.YtglonedhoenkpaaLvlU
import Derived.Test.YtglonedhoenkpaaLvlD
import Derived.Test.YtglonedhoenkpaaIntC
import Derived.Test.YtglonedhoenkpaaLstO
import Derived.Test.YtglonedhoenkpaaLvlE
import Derived.WalkKit
import Derived.ProofKit
import Derived.OpenShut
import Derived.ShutString
import Derived.ChangeOld
import Derived.Below
import Derived.Lib.SmallJoins
import Derived.Lib.QuietBelow
import Derived.Deep.RegionHeld3
import Derived.Deep.CutRange
namespace Go.Proofs.Ytglonedhoenkpaa.fnExactClearedAt
open Go.ChangeShapes Go.WideShapes Go.ChangeAt Go.RowKit Go.Joins Go.Proofs.Ytglonedhoenkpaa.ats Go.Proofs.Ytglonedhoenkpaa.ints Go.Proofs.Ytglonedhoenkpaa.lst Go.Proofs.Ytglonedhoenkpaa.intc Go.Proofs.Ytglonedhoenkpaa.code_
open Go.ChangeMaps (open_string shut_string)
set_option linter.unusedVariables false

theorem bool_ne_self (b : Bool) : (b != b) = false := by simp
theorem int_ne_self (x : Int) : (x != x) = false := by simp

/-- The function f returns this. -/
def Gives (f : Nat) (z0 : List Int) (n0 : Nat) (a1 : Int) (a2 : Int) (O0 : Int) (O1 : Int) (O2 : Bool) : Prop := ∀ (A0 : Option Addr) (c0 : Nat) (w : World), n0 ≤ c0 → RdZ 5 w w.heap.size A0 n0 z0 → 
  Calls Try.prog f #[.slice A0 n0 c0, .int .i64 a1, .int .i64 a2] w fun e w' => e = .returned (.tuple #[.int .i64 O0, .int .i64 O1, .bool O2]) ∧ Below w.heap.size w w'

set_option maxRecDepth 100000 in
set_option maxHeartbeats 8000000 in
theorem law_of (a0 : Option Addr) (c0 : Nat) (z0 : List Int) (n0 : Nat) (a1 : Int) (a2 : Int) (O0 : Int) (O1 : Int) (O2 : Bool) (w : World) (hn0 : n0 ≤ 1048576) (hr0 : RdZ 5 w w.heap.size a0 n0 z0)
    (hs : Gives 28 z0 n0 a1 a2 O0 O1 O2) (hi : Gives 22 z0 n0 a1 a2 O0 O1 O2) :
    Calls Try.prog 12 #[.slice a0 n0 c0, .int .i64 a1, .int .i64 a2] w fun e w' => e = .returned (.bool true) ∧ Below w.heap.size w w' := by
  have HZ0 := Lib.hid (fun w => lvle.sz a0 n0 c0 w (by unfold maxLen; omega))
  rw [if_pos hn0] at HZ0
  have d0 : decide ((1048576 : Int) - (n0 : Int) < 0) = false := decide_eq_false (by omega)
  have HC0 := Lib.hid (fun (w' : World) (hb : Below w.heap.size w w') => lvle.copyS z0 a0 n0 c0 w' hn0 (hr0.next hb))
  have HL0 := Lib.hid hr0.1
  have HS := Lib.hid (fun (A0 : Option Addr) (c0 : Nat) (w : World) (e0 : n0 ≤ c0) (h0 : RdZ 5 w w.heap.size A0 n0 z0) => hs A0 c0 w e0 h0)
  have HI := Lib.hid (fun (A0 : Option Addr) (c0 : Nat) (w : World) (e0 : n0 ≤ c0) (h0 : RdZ 5 w w.heap.size A0 n0 z0) => hi A0 c0 w e0 h0)
  have ne0 := int_ne_self O0
  have ne1 := int_ne_self O1
  have ne2 := bool_ne_self O2
  clear hs hi hr0
  go_enter Try.func12, Try.ntmps12
  go_wp2_with fail
  refine (HZ0.out w).mono ?_
  rintro e w' ⟨rfl, rfl⟩
  have AN1 := Lib.hid (Below.refl w.heap.size w)
  go_wp2_with fail
  refine (HC0.out w AN1.out).mono ?_
  rintro e V2 ⟨g5, rfl, ho4, h3⟩
  have AN6 := Lib.hid (AN1.out.trans (h3.mono AN1.out.size))
  clear AN1
  have rd7 := Lib.hid (RdZ.of_own ho4 HL0.out)
  clear h3 ho4
  go_wp2_with fail
  refine (HS.out _ _ V2 (Nat.le_refl _) rd7.out).mono ?_
  rintro e V8 ⟨rfl, h9⟩
  clear rd7
  have AN11 := Lib.hid (AN6.out.trans (h9.mono AN6.out.size))
  clear AN6
  clear h9
  go_wp2_with fail
  refine (HC0.out V8 AN11.out).mono ?_
  rintro e V12 ⟨g15, rfl, ho14, h13⟩
  have LE16 := Lib.hid AN11.out.size
  have AN17 := Lib.hid (AN11.out.trans (h13.mono AN11.out.size))
  clear AN11
  have rd18 := Lib.hid (RdZ.of_own ho14 HL0.out)
  have OW19 := Lib.hid ho14
  have LT20 := Lib.hid (own_row_lt ho14)
  have AN21 := Lib.hid (Below.refl V12.heap.size V12)
  clear h13 ho14
  have rd22 := Lib.hid (RdZ.of_own OW19.out HL0.out)
  have LE23 := Lib.hid AN17.out.size
  have LE24 := Lib.hid AN21.out.size
  go_wp2_with fail
  refine (HI.out _ _ V12 (Nat.le_refl _) rd22.out).mono ?_
  rintro e V25 ⟨rfl, h26⟩
  clear rd22
  have AN28 := Lib.hid (AN17.out.trans (h26.mono AN17.out.size))
  clear AN17
  have AN29 := Lib.hid (AN21.out.trans (h26.mono AN21.out.size))
  clear AN21
  have OW30 := Lib.hid (own_.own_below OW19.out h26)
  clear OW19
  clear h26
  clear AN29
  go_wp2_with fail
  refine (HC0.out V25 AN28.out).mono ?_
  rintro e V31 ⟨g34, rfl, ho33, h32⟩
  have AN35 := Lib.hid (AN28.out.trans (h32.mono AN28.out.size))
  clear AN28
  have OW36 := Lib.hid (own_.own_below OW30.out h32)
  clear OW30
  have rd37 := Lib.hid (RdZ.of_own ho33 HL0.out)
  clear h32 ho33
  have E38 := Lib.hid (lvle.eqS z0 _ _ n0 n0 n0 V31 (by omega) (RdZ.of_own OW36.out HL0.out) rd37.out)
  clear rd37
  go_wp2_with fail
  refine E38.out.mono ?_
  rintro e V39 ⟨rfl, h40⟩
  clear E38
  have AN41 := Lib.hid (AN35.out.trans (h40.mono AN35.out.size))
  clear AN35
  have OW42 := Lib.hid (own_.own_below OW36.out h40)
  clear OW36
  clear h40
  go_wp2_with fail
  go_ret
  exact ⟨rfl, AN41.out⟩

set_option maxRecDepth 100000 in
theorem walk (a0 : Option Addr) (n0 c0 : Nat) (z0 : List Int) (a1 : Int) (a2 : Int) (w : World) (w0 : RdZ 5 w w.heap.size a0 n0 z0) (l0 : n0 ≤ maxLen) (w1 : (Lit.int .i64 a1).wf = true) (w2 : (Lit.int .i64 a2).wf = true) :
    Calls Try.prog 12 #[.slice a0 n0 c0, .int .i64 a1, .int .i64 a2] w fun e w' => e = .returned (.bool true) ∧ Below w.heap.size w w' := by
  by_cases hn0 : n0 ≤ 1048576
  · skip
    exact law_of a0 c0 z0 n0 a1 a2 (lvl.caL z0 n0 a1 a2) (lvl.caU z0 n0 a1 a2) (lvl.caB z0 n0 a1 a2) w hn0 w0
      (fun A0 c0 w hc0 h0 => lvlu.clearedAt z0 a1 a2 A0 n0 c0 w hc0 (by omega) h0)
      (fun A0 c0 w hc0 h0 => lvld.clearedAt z0 a1 a2 A0 n0 c0 w hc0 (by omega) h0)
  · have HZ0 := Lib.hid (lvle.sz a0 n0 c0 w l0)
    rw [if_neg hn0] at HZ0
    clear w0 l0 w1 w2 hn0
    go_enter Try.func12, Try.ntmps12
    go_wp2_with fail
    refine (HZ0.out).mono ?_
    rintro e w' ⟨rfl, rfl⟩
    go_wp2_with fail
    go_ret
    exact ⟨rfl, Below.refl _ _⟩


theorem own : ownKnob Try.prog.godebug = none := by kernel_rfl
theorem laidOut : laidOutB Try.prog = true := by kernel_rfl

set_option maxRecDepth 100000 in
theorem lifted (os : Os) (started : os.Started) (H : Type) (enc : TypeId × Value → H) :
    ReturnsInHanded {} Try.checked os 12 .any (Rows.fnExactClearedAtSpec.pre6 enc Try.prog Try.f12 Rows.fnExactClearedAtRow.domain false) (Rows.fnExactClearedAtSpec.post enc Try.prog Try.f12 false true false false) := by
  refine returnsInHanded_of_change (C := Try.checked) own started (by kernel_rfl) Try.func12
    (ChangeSpec.witness6 (enc := enc) (C := Try.checked) false ⟨#[], #[.slice none 0 0, .int .i64 0, .int .i64 0], []⟩ 8 (by kernel_rfl) (by kernel_rfl) (by kernel_rfl) (by kernel_rfl)) ?_
  intro W base args ds gs before hval0 hW hcnd _
  have hval : ∀ (j : Nat) t v, Try.f12.params[j]? = some t → args[j]? = some v → Value.okWide Try.prog W .any base t v := hval0
  have hW' := hW
  obtain ⟨p, q, hA0, hV, rfl, hfz, hnd⟩ := hW
  have hA : DataW.TrodAll enc Try.prog W 0 (fun _ => true) true Try.f12.params.toList args.toList ds p := hA0
  rw [Try.params12] at hA hval
  obtain ⟨v0, vs0, d0, ds0, p0, q0, hargs, rfl, rfl, h0, r0⟩ := trodAll_cons hA
  obtain ⟨v1, vs1, d1, ds1, p1, q1, rfl, rfl, rfl, h1, r1⟩ := trodAll_cons r0
  obtain ⟨v2, vs2, d2, ds2, p2, q2, rfl, rfl, rfl, h2, r2⟩ := trodAll_cons r1
  obtain ⟨rfl, rfl, rfl⟩ := trodAll_nil r2
  obtain rfl : args = #[v0, v1, v2] := by cases args; simp_all
  obtain ⟨rfl, rfl⟩ := trodVars_none hV
  obtain ⟨a0, len0, cap0, rfl⟩ := okWide_slice Try.underlying63 (hval 0 63 v0 rfl rfl)
  have k0 := h0
  have lt0 : ∀ x ∈ p0, x.block < W.heap.size := by obtain ⟨m, hm⟩ := k0; exact DataW.trod_lt m _ _ _ hm
  obtain ⟨z0, w0, n0⟩ : ∃ zs, lst.RdZ 5 W W.heap.size a0 len0 zs ∧ len0 ≤ maxLen := by
    obtain ⟨fuel, hf⟩ := h0
    obtain ⟨A, n, c, zs, hcs, hrd, hle⟩ := lsto.open_structs Try.underlying63 Try.underlying67 (by kernel_rfl) (by kernel_rfl) (by decide) (by
        intro j f hg
        match j, hg with
        | 0, hg => exact (Option.some.inj hg) ▸ Try.underlying3
        | 1, hg => exact (Option.some.inj hg) ▸ Try.underlying3
        | 2, hg => exact (Option.some.inj hg) ▸ Try.underlying3
        | 3, hg => exact (Option.some.inj hg) ▸ Try.underlying3
        | 4, hg => exact (Option.some.inj hg) ▸ Try.underlying3
        | q + 5, hg => exact absurd (Array.getElem?_eq_some_iff.1 hg).1 (by simp)) hf
    simp [Value.cells] at hcs
    obtain ⟨rfl, rfl, rfl⟩ := hcs
    exact ⟨zs, hrd, hle⟩
  obtain ⟨a1, rfl, rfl, rfl, w1⟩ := open_int Try.underlying3 (hval 1 3 v1 rfl rfl) h1
  obtain ⟨a2, rfl, rfl, rfl, w2⟩ := open_int Try.underlying3 (hval 2 3 v2 rfl rfl) h2
  clear hA0 hval0
  refine (walk a0 len0 cap0 z0 a1 a2 W w0 n0 w1 w2).mono fun e W' ⟨he, bel⟩ => ?_
  subst he
  exact ⟨_, rfl, _, _, _, [], _, [], hW', trodAll_mk1 (shut_bool Try.underlying4 _), (trodAll_cons_mk (Below.trod laidOut (by kernel_rfl) (of_decide_eq_true (by kernel_rfl)) k0 bel lt0) (trodAll_cons_mk (shut_int Try.underlying3 w1) (trodAll_cons_mk (shut_int Try.underlying3 w2) trodAll_mk0))), rfl, bel.frame _, fun h => by cases h⟩

theorem over : Rows.fnExactClearedAtRow.holds Try.pinned (OpenSpec.ofChange Rows.fnExactClearedAtSpec) :=
  OpenClaim.holds_of_wide 12 Try.f12 rfl rfl rfl rfl rfl rfl rfl ⟨rfl, rfl, rfl, rfl, rfl⟩ rfl rfl rfl rfl rfl (by kernel_rfl) Try.func12 (by kernel_rfl)
    (of_decide_eq_true (by kernel_rfl)) (by unfold Func.isWrapper; first | (rw [if_pos (by decide +kernel)]; kernel_rfl) | (rw [if_neg (by decide +kernel)]; exact ⟨rfl, rfl⟩))
    (fun os started H enc _ => lifted os started H enc)

theorem proved : Rows.FnExactClearedAtSaid :=
  over
#print axioms proved
end Go.Proofs.Ytglonedhoenkpaa.fnExactClearedAt
