/- For every slice of Cleareds and all other arguments the law FnExactReleaseLevels returns true: impl.ReleaseLevels and spec.ReleaseLevels return the same list and true, or both an empty slice and false; the arguments are left as they were, the results share no memory. No condition. -/
import Derived.Test.YtglonedhoenkpaaRows
import Derived.Test.YtglonedhoenkpaaLvlV
import Derived.Test.YtglonedhoenkpaaLvlF
import Derived.Test.YtglonedhoenkpaaIntC
import Derived.Test.YtglonedhoenkpaaLstO
import Derived.Test.YtglonedhoenkpaaLvlE
import Derived.WalkKit
import Derived.ProofKit
import Derived.OpenShut
import Derived.ShutString
import Derived.ChangeOld
import Derived.Below
import Derived.Lib.SmallJoins
import Derived.Lib.QuietBelow
import Derived.Deep.RegionHeld3
import Derived.Deep.CutRange
namespace Go.Proofs.Ytglonedhoenkpaa.fnExactReleaseLevels
open Go.ChangeShapes Go.WideShapes Go.ChangeAt Go.RowKit Go.Joins Go.Proofs.Ytglonedhoenkpaa.ats Go.Proofs.Ytglonedhoenkpaa.ints Go.Proofs.Ytglonedhoenkpaa.lst Go.Proofs.Ytglonedhoenkpaa.intc Go.Proofs.Ytglonedhoenkpaa.code_
open Go.ChangeMaps (open_string shut_string)
set_option linter.unusedVariables false

theorem bool_ne_self (b : Bool) : (b != b) = false := by simp
theorem int_ne_self (x : Int) : (x != x) = false := by simp

/-- The function f returns this. -/
def Gives (f : Nat) (z0 : List Int) (n0 : Nat) (a1 : Int) (V : List Int) (N : Nat) (O0 : Bool) : Prop := ∀ (A0 : Option Addr) (c0 : Nat) (w : World), n0 ≤ c0 → RdZ 5 w w.heap.size A0 n0 z0 → 
  Calls Try.prog f #[.slice A0 n0 c0, .int .i64 a1] w fun e w' => ∃ v, e = .returned (.tuple #[v, .bool O0]) ∧ w'.ownsRow w.heap.size 26 5 v N (cellsI V) ∧ Below w.heap.size w w'

set_option maxRecDepth 100000 in
set_option maxHeartbeats 8000000 in
theorem law_of (a0 : Option Addr) (c0 : Nat) (z0 : List Int) (n0 : Nat) (a1 : Int) (V : List Int) (N : Nat) (O0 : Bool) (w : World) (hn0 : n0 ≤ 1048576) (hr0 : RdZ 5 w w.heap.size a0 n0 z0) (hN : N ≤ 1048576) (hV : V.length = N * 5)
    (hs : Gives 26 z0 n0 a1 V N O0) (hi : Gives 25 z0 n0 a1 V N O0) :
    Calls Try.prog 13 #[.slice a0 n0 c0, .int .i64 a1] w fun e w' => e = .returned (.bool true) ∧ Below w.heap.size w w' := by
  have HZ0 := Lib.hid (fun w => lvle.sz a0 n0 c0 w (by unfold maxLen; omega))
  rw [if_pos hn0] at HZ0
  have d0 : decide ((1048576 : Int) - (n0 : Int) < 0) = false := decide_eq_false (by omega)
  have HC0 := Lib.hid (fun (w' : World) (hb : Below w.heap.size w w') => lvle.copyS z0 a0 n0 c0 w' hn0 (hr0.next hb))
  have HL0 := Lib.hid hr0.1
  have HS := Lib.hid (fun (A0 : Option Addr) (c0 : Nat) (w : World) (e0 : n0 ≤ c0) (h0 : RdZ 5 w w.heap.size A0 n0 z0) => hs A0 c0 w e0 h0)
  have HI := Lib.hid (fun (A0 : Option Addr) (c0 : Nat) (w : World) (e0 : n0 ≤ c0) (h0 : RdZ 5 w w.heap.size A0 n0 z0) => hi A0 c0 w e0 h0)
  have HV := Lib.hid hV
  have HNN := Lib.hid hN
  have ne0 := bool_ne_self O0
  clear hs hi hr0 hV
  go_enter Try.func13, Try.ntmps13
  go_wp2_with fail
  refine (HZ0.out w).mono ?_
  rintro e w' ⟨rfl, rfl⟩
  have AN1 := Lib.hid (Below.refl w.heap.size w)
  go_wp2_with fail
  refine (HC0.out w AN1.out).mono ?_
  rintro e V2 ⟨g5, rfl, ho4, h3⟩
  have AN6 := Lib.hid (AN1.out.trans (h3.mono AN1.out.size))
  clear AN1
  have rd7 := Lib.hid (RdZ.of_own ho4 HL0.out)
  clear h3 ho4
  go_wp2_with fail
  refine (HS.out _ _ V2 (Nat.le_refl _) rd7.out).mono ?_
  rintro e V8 ⟨vW, rfl, ho10, h9⟩
  obtain ⟨AW, cW, rfl⟩ := own_sliceZ ho10
  clear rd7
  have AN11 := Lib.hid (AN6.out.trans (h9.mono AN6.out.size))
  clear AN6
  clear h9
  have RW := Lib.hid (RdZ.of_own ho10 HV.out)
  clear ho10
  have AN12 := Lib.hid (Below.refl V8.heap.size V8)
  go_wp2_with fail
  refine (HC0.out V8 AN11.out).mono ?_
  rintro e V13 ⟨g16, rfl, ho15, h14⟩
  have LE17 := Lib.hid AN11.out.size
  have LE18 := Lib.hid AN12.out.size
  have AN19 := Lib.hid (AN11.out.trans (h14.mono AN11.out.size))
  clear AN11
  have AN20 := Lib.hid (AN12.out.trans (h14.mono AN12.out.size))
  clear AN12
  have rd21 := Lib.hid (RdZ.of_own ho15 HL0.out)
  have OW22 := Lib.hid ho15
  have LT23 := Lib.hid (own_row_lt ho15)
  have AN24 := Lib.hid (Below.refl V13.heap.size V13)
  clear h14 ho15
  have rd25 := Lib.hid (RdZ.of_own OW22.out HL0.out)
  have LE26 := Lib.hid AN19.out.size
  have LE27 := Lib.hid AN20.out.size
  have LE28 := Lib.hid AN24.out.size
  go_wp2_with fail
  refine (HI.out _ _ V13 (Nat.le_refl _) rd25.out).mono ?_
  rintro e V29 ⟨vG, rfl, ho31, h30⟩
  obtain ⟨AG, cG, rfl⟩ := own_sliceZ ho31
  clear rd25
  have AN32 := Lib.hid (AN19.out.trans (h30.mono AN19.out.size))
  clear AN19
  have AN33 := Lib.hid (AN20.out.trans (h30.mono AN20.out.size))
  clear AN20
  have AN34 := Lib.hid (AN24.out.trans (h30.mono AN24.out.size))
  clear AN24
  have OW35 := Lib.hid (own_.own_below OW22.out h30)
  clear OW22
  clear h30
  clear AN34
  have OW36 := Lib.hid ho31
  have LT37 := Lib.hid (own_row_lt ho31)
  clear ho31
  have E38 := Lib.hid (lvle.eqS V AG AW N cG cW V29 (by have := HNN.out; omega) (RdZ.of_own OW36.out HV.out) (RW.out.next AN33.out))
  go_wp2_with fail
  refine E38.out.mono ?_
  rintro e V39 ⟨rfl, h40⟩
  clear E38
  have AN41 := Lib.hid (AN32.out.trans (h40.mono AN32.out.size))
  clear AN32
  have AN42 := Lib.hid (AN33.out.trans (h40.mono AN33.out.size))
  clear AN33
  have OW43 := Lib.hid (own_.own_below OW35.out h40)
  clear OW35
  have OW44 := Lib.hid (own_.own_below OW36.out h40)
  clear OW36
  clear h40
  go_wp2_with fail
  refine (HC0.out V39 AN41.out).mono ?_
  rintro e V45 ⟨g48, rfl, ho47, h46⟩
  have AN49 := Lib.hid (AN41.out.trans (h46.mono AN41.out.size))
  clear AN41
  have AN50 := Lib.hid (AN42.out.trans (h46.mono AN42.out.size))
  clear AN42
  have OW51 := Lib.hid (own_.own_below OW43.out h46)
  clear OW43
  have OW52 := Lib.hid (own_.own_below OW44.out h46)
  clear OW44
  have rd53 := Lib.hid (RdZ.of_own ho47 HL0.out)
  clear h46 ho47
  have E54 := Lib.hid (lvle.eqS z0 _ _ n0 n0 n0 V45 (by omega) (RdZ.of_own OW51.out HL0.out) rd53.out)
  clear rd53
  go_wp2_with fail
  refine E54.out.mono ?_
  rintro e V55 ⟨rfl, h56⟩
  clear E54
  have AN57 := Lib.hid (AN49.out.trans (h56.mono AN49.out.size))
  clear AN49
  have AN58 := Lib.hid (AN50.out.trans (h56.mono AN50.out.size))
  clear AN50
  have OW59 := Lib.hid (own_.own_below OW51.out h56)
  clear OW51
  have OW60 := Lib.hid (own_.own_below OW52.out h56)
  clear OW52
  clear h56
  go_wp2_with fail
  refine (lvle.markS V8.heap.size (some ⟨g16, 0, none⟩) 1 n0 n0 _ V55 (by have := HNN.out; omega) OW59.out).mono ?_
  rintro e V61 ⟨rfl, h62, hg63, ho64⟩
  have AN65 := Lib.hid (AN57.out.trans (h62.mono LE17.out))
  clear AN57
  have AN66 := Lib.hid (AN58.out.trans (h62.mono LE18.out))
  clear AN58
  have OW67 := Lib.hid (own_kept OW60.out hg63 (fun q hq => Nat.lt_of_lt_of_le (LT23.out q hq) LE28.out))
  clear OW60
  clear OW59 h62 hg63
  clear ho64
  have KN : decide (((1 + n0 * 5 : Nat) : Int) < 0) = false := decide_eq_false (by omega)
  generalize ((1 + n0 * 5 : Nat) : Int) = KK at *
  have E68 := Lib.hid (lvle.eqS V AG AW N cG cW V61 (by have := HNN.out; omega) (RdZ.of_own OW67.out HV.out) (RW.out.next AN66.out))
  go_wp2_with fail
  refine E68.out.mono ?_
  rintro e V69 ⟨rfl, h70⟩
  clear E68
  have AN71 := Lib.hid (AN65.out.trans (h70.mono AN65.out.size))
  clear AN65
  have AN72 := Lib.hid (AN66.out.trans (h70.mono AN66.out.size))
  clear AN66
  have OW73 := Lib.hid (own_.own_below OW67.out h70)
  clear OW67
  clear h70
  clear KN
  go_wp2_with fail
  refine (lvle.markS V13.heap.size AG 1 N cG _ V69 (by have := HNN.out; omega) OW73.out).mono ?_
  rintro e V74 ⟨rfl, h75, hg76, ho77⟩
  have AN78 := Lib.hid (AN71.out.trans (h75.mono LE26.out))
  clear AN71
  have AN79 := Lib.hid (AN72.out.trans (h75.mono LE27.out))
  clear AN72
  clear OW73 h75 hg76
  have MG := Lib.hid (RdZ.of_own ho77 (marksI_length 1 (N * 5)))
  clear ho77
  have AN80 := Lib.hid (Below.refl V74.heap.size V74)
  have K5 : decide (((1 + N * 5 : Nat) : Int) < 0) = false := decide_eq_false (by omega)
  have K6 : (((1 + N * 5 : Nat) : Int) != ((1 + N * 5 : Nat) : Int)) = false := int_ne_self _
  have HH := Lib.hid (fun (W : World) h => lvle.heldS AG 1 N cG W (by have := HNN.out; omega) (h))
  generalize ((1 + N * 5 : Nat) : Int) = K at *
  go_wp2_with fail
  refine (HH.out V74 (MG.out.next AN80.out)).mono ?_
  rintro e w' ⟨rfl, rfl⟩
  go_wp2_with fail
  refine (HC0.out V74 AN78.out).mono ?_
  rintro e V81 ⟨g84, rfl, ho83, h82⟩
  have AN85 := Lib.hid (AN78.out.trans (h82.mono AN78.out.size))
  clear AN78
  have AN86 := Lib.hid (AN79.out.trans (h82.mono AN79.out.size))
  clear AN79
  have AN87 := Lib.hid (AN80.out.trans (h82.mono AN80.out.size))
  clear AN80
  have rd88 := Lib.hid (RdZ.of_own ho83 HL0.out)
  clear h82 ho83
  go_wp2_with fail
  refine (HI.out _ _ V81 (Nat.le_refl _) rd88.out).mono ?_
  rintro e V89 ⟨vH, rfl, ho91, h90⟩
  obtain ⟨AH, cH, rfl⟩ := own_sliceZ ho91
  clear rd88
  have AN92 := Lib.hid (AN85.out.trans (h90.mono AN85.out.size))
  clear AN85
  have AN93 := Lib.hid (AN86.out.trans (h90.mono AN86.out.size))
  clear AN86
  have AN94 := Lib.hid (AN87.out.trans (h90.mono AN87.out.size))
  clear AN87
  clear h90
  have rd95 := RdZ.of_own ho91 HV.out
  have E96 := Lib.hid (lvle.eqS V AH AW N cH cW V89 (by have := HNN.out; omega) (rd95) (RW.out.next AN93.out))
  go_wp2_with fail
  refine E96.out.mono ?_
  rintro e V97 ⟨rfl, h98⟩
  clear E96
  have AN99 := Lib.hid (AN92.out.trans (h98.mono AN92.out.size))
  clear AN92
  have AN100 := Lib.hid (AN93.out.trans (h98.mono AN93.out.size))
  clear AN93
  have AN101 := Lib.hid (AN94.out.trans (h98.mono AN94.out.size))
  clear AN94
  clear h98
  go_wp2_with fail
  refine (HH.out V97 (MG.out.next AN101.out)).mono ?_
  rintro e w' ⟨rfl, rfl⟩
  go_wp2_with fail
  go_ret
  exact ⟨rfl, AN99.out⟩

set_option maxRecDepth 100000 in
theorem walk (a0 : Option Addr) (n0 c0 : Nat) (z0 : List Int) (a1 : Int) (w : World) (w0 : RdZ 5 w w.heap.size a0 n0 z0) (l0 : n0 ≤ maxLen) (w1 : (Lit.int .i64 a1).wf = true) :
    Calls Try.prog 13 #[.slice a0 n0 c0, .int .i64 a1] w fun e w' => e = .returned (.bool true) ∧ Below w.heap.size w w' := by
  by_cases hn0 : n0 ≤ 1048576
  · skip
    exact law_of a0 c0 z0 n0 a1 (lvl.rlV z0 n0 a1) (lvl.rlN z0 n0 a1) (lvl.rlB z0 n0 a1) w hn0 w0 (Nat.le_trans (lvl.rlN_le z0 n0 a1) (by omega)) (lvl.rlV_length z0 n0 a1)
      (fun A0 c0 w hc0 h0 => lvlv.releaseLevels z0 a1 A0 n0 c0 w hc0 (by omega) h0)
      (fun A0 c0 w hc0 h0 => lvlf.releaseLevels z0 a1 A0 n0 c0 w hc0 (by omega) h0)
  · have HZ0 := Lib.hid (lvle.sz a0 n0 c0 w l0)
    rw [if_neg hn0] at HZ0
    clear w0 l0 w1 hn0
    go_enter Try.func13, Try.ntmps13
    go_wp2_with fail
    refine (HZ0.out).mono ?_
    rintro e w' ⟨rfl, rfl⟩
    go_wp2_with fail
    go_ret
    exact ⟨rfl, Below.refl _ _⟩


theorem own : ownKnob Try.prog.godebug = none := by kernel_rfl
theorem laidOut : laidOutB Try.prog = true := by kernel_rfl

set_option maxRecDepth 100000 in
theorem lifted (os : Os) (started : os.Started) (H : Type) (enc : TypeId × Value → H) :
    ReturnsInHanded {} Try.checked os 13 .any (Rows.fnExactReleaseLevelsSpec.pre6 enc Try.prog Try.f13 Rows.fnExactReleaseLevelsRow.domain false) (Rows.fnExactReleaseLevelsSpec.post enc Try.prog Try.f13 false true false false) := by
  refine returnsInHanded_of_change (C := Try.checked) own started (by kernel_rfl) Try.func13
    (ChangeSpec.witness6 (enc := enc) (C := Try.checked) false ⟨#[], #[.slice none 0 0, .int .i64 0], []⟩ 8 (by kernel_rfl) (by kernel_rfl) (by kernel_rfl) (by kernel_rfl)) ?_
  intro W base args ds gs before hval0 hW hcnd _
  have hval : ∀ (j : Nat) t v, Try.f13.params[j]? = some t → args[j]? = some v → Value.okWide Try.prog W .any base t v := hval0
  have hW' := hW
  obtain ⟨p, q, hA0, hV, rfl, hfz, hnd⟩ := hW
  have hA : DataW.TrodAll enc Try.prog W 0 (fun _ => true) true Try.f13.params.toList args.toList ds p := hA0
  rw [Try.params13] at hA hval
  obtain ⟨v0, vs0, d0, ds0, p0, q0, hargs, rfl, rfl, h0, r0⟩ := trodAll_cons hA
  obtain ⟨v1, vs1, d1, ds1, p1, q1, rfl, rfl, rfl, h1, r1⟩ := trodAll_cons r0
  obtain ⟨rfl, rfl, rfl⟩ := trodAll_nil r1
  obtain rfl : args = #[v0, v1] := by cases args; simp_all
  obtain ⟨rfl, rfl⟩ := trodVars_none hV
  obtain ⟨a0, len0, cap0, rfl⟩ := okWide_slice Try.underlying63 (hval 0 63 v0 rfl rfl)
  have k0 := h0
  have lt0 : ∀ x ∈ p0, x.block < W.heap.size := by obtain ⟨m, hm⟩ := k0; exact DataW.trod_lt m _ _ _ hm
  obtain ⟨z0, w0, n0⟩ : ∃ zs, lst.RdZ 5 W W.heap.size a0 len0 zs ∧ len0 ≤ maxLen := by
    obtain ⟨fuel, hf⟩ := h0
    obtain ⟨A, n, c, zs, hcs, hrd, hle⟩ := lsto.open_structs Try.underlying63 Try.underlying67 (by kernel_rfl) (by kernel_rfl) (by decide) (by
        intro j f hg
        match j, hg with
        | 0, hg => exact (Option.some.inj hg) ▸ Try.underlying3
        | 1, hg => exact (Option.some.inj hg) ▸ Try.underlying3
        | 2, hg => exact (Option.some.inj hg) ▸ Try.underlying3
        | 3, hg => exact (Option.some.inj hg) ▸ Try.underlying3
        | 4, hg => exact (Option.some.inj hg) ▸ Try.underlying3
        | q + 5, hg => exact absurd (Array.getElem?_eq_some_iff.1 hg).1 (by simp)) hf
    simp [Value.cells] at hcs
    obtain ⟨rfl, rfl, rfl⟩ := hcs
    exact ⟨zs, hrd, hle⟩
  obtain ⟨a1, rfl, rfl, rfl, w1⟩ := open_int Try.underlying3 (hval 1 3 v1 rfl rfl) h1
  clear hA0 hval0
  refine (walk a0 len0 cap0 z0 a1 W w0 n0 w1).mono fun e W' ⟨he, bel⟩ => ?_
  subst he
  exact ⟨_, rfl, _, _, _, [], _, [], hW', trodAll_mk1 (shut_bool Try.underlying4 _), (trodAll_cons_mk (Below.trod laidOut (by kernel_rfl) (of_decide_eq_true (by kernel_rfl)) k0 bel lt0) (trodAll_cons_mk (shut_int Try.underlying3 w1) trodAll_mk0)), rfl, bel.frame _, fun h => by cases h⟩

theorem over : Rows.fnExactReleaseLevelsRow.holds Try.pinned (OpenSpec.ofChange Rows.fnExactReleaseLevelsSpec) :=
  OpenClaim.holds_of_wide 13 Try.f13 rfl rfl rfl rfl rfl rfl rfl ⟨rfl, rfl, rfl, rfl, rfl⟩ rfl rfl rfl rfl rfl (by kernel_rfl) Try.func13 (by kernel_rfl)
    (of_decide_eq_true (by kernel_rfl)) (by unfold Func.isWrapper; first | (rw [if_pos (by decide +kernel)]; kernel_rfl) | (rw [if_neg (by decide +kernel)]; exact ⟨rfl, rfl⟩))
    (fun os started H enc _ => lifted os started H enc)

theorem proved : Rows.FnExactReleaseLevelsSaid :=
  over
#print axioms proved
end Go.Proofs.Ytglonedhoenkpaa.fnExactReleaseLevels
