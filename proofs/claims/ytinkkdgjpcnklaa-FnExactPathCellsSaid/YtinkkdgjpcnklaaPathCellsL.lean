/- For every motion and all other arguments the law FnExactPathCells returns true: impl.PathCells and spec.PathCells return the same cells and true, or both an empty slice and false, and share no memory. No condition. -/
import Derived.Test.YtinkkdgjpcnklaaRows
import Derived.Test.YtinkkdgjpcnklaaMotD
import Derived.Test.YtinkkdgjpcnklaaMotE
import Derived.Test.YtinkkdgjpcnklaaMotX
import Derived.Test.YtinkkdgjpcnklaaMotO
import Derived.Test.YtinkkdgjpcnklaaIntC
import Derived.Test.YtinkkdgjpcnklaaLstO
import Derived.Test.YtinkkdgjpcnklaaPlcE
import Derived.WalkKit
import Derived.ProofKit
import Derived.OpenShut
import Derived.ShutString
import Derived.ChangeOld
import Derived.Below
import Derived.Lib.SmallJoins
import Derived.Lib.QuietBelow
import Derived.Deep.RegionHeld3
import Derived.Deep.CutRange
namespace Go.Proofs.Ytinkkdgjpcnklaa.fnExactPathCells
open Go.ChangeShapes Go.WideShapes Go.ChangeAt Go.RowKit Go.Joins Go.Proofs.Ytinkkdgjpcnklaa.ats Go.Proofs.Ytinkkdgjpcnklaa.ints Go.Proofs.Ytinkkdgjpcnklaa.lst Go.Proofs.Ytinkkdgjpcnklaa.intc Go.Proofs.Ytinkkdgjpcnklaa.code_
open Go.ChangeMaps (open_string shut_string)
set_option linter.unusedVariables false

theorem bool_ne_self (b : Bool) : (b != b) = false := by simp
theorem int_ne_self (x : Int) : (x != x) = false := by simp

/-- The function f returns this. -/
def Gives (f : Nat) (a00 : Int) (a01 : Int) (a02 : Int) (a03 : Int) (a04 : Int) (a05 : Int) (a1 : Int) (a2 : Int) (V : List Int) (N : Nat) (O0 : Bool) : Prop := ∀ (w : World), 
  Calls Try.prog f #[.agg #[.int .i64 a00, .int .i64 a01, .int .i64 a02, .int .i64 a03, .int .i64 a04, .int .i64 a05], .int .i64 a1, .int .i64 a2] w fun e w' => ∃ v, e = .returned (.tuple #[v, .bool O0]) ∧ w'.ownsRow w.heap.size 25 2 v N (cellsI V) ∧ Below w.heap.size w w'

set_option maxRecDepth 100000 in
set_option maxHeartbeats 8000000 in
theorem law_of (a00 : Int) (a01 : Int) (a02 : Int) (a03 : Int) (a04 : Int) (a05 : Int) (a1 : Int) (a2 : Int) (V : List Int) (N : Nat) (O0 : Bool) (w : World) (hN : N ≤ 1048576) (hV : V.length = N * 2)
    (hs : Gives 32 a00 a01 a02 a03 a04 a05 a1 a2 V N O0) (hi : Gives 31 a00 a01 a02 a03 a04 a05 a1 a2 V N O0) :
    Calls Try.prog 12 #[.agg #[.int .i64 a00, .int .i64 a01, .int .i64 a02, .int .i64 a03, .int .i64 a04, .int .i64 a05], .int .i64 a1, .int .i64 a2] w fun e w' => e = .returned (.bool true) ∧ Below w.heap.size w w' := by
  have HS := Lib.hid (fun (w : World) => hs w)
  have HI := Lib.hid (fun (w : World) => hi w)
  have HV := Lib.hid hV
  have HNN := Lib.hid hN
  have ne0 := bool_ne_self O0
  clear hs hi hV
  have BX0 := Lib.hid (newS 51 #[.int .i64 a00, .int .i64 a01, .int .i64 a02, .int .i64 a03, .int .i64 a04, .int .i64 a05] w)
  go_enter Try.func12, Try.ntmps12
  go_wp2_with fail
  generalize (w.alloc (.cells #[.int .i64 a00, .int .i64 a01, .int .i64 a02, .int .i64 a03, .int .i64 a04, .int .i64 a05] 51)) = W0 at *
  have AN1 := Lib.hid (BX0.out.1)
  have AN2 := Lib.hid (Below.refl W0.heap.size W0)
  refine (motx.toMotion a00 a01 a02 a03 a04 a05 W0).mono ?_
  rintro e V3 ⟨rfl, h4⟩
  have AN5 := Lib.hid (AN1.out.trans (h4.mono AN1.out.size))
  clear AN1
  have AN6 := Lib.hid (AN2.out.trans (h4.mono AN2.out.size))
  clear AN2
  clear h4
  go_wp2_with fail
  refine (HS.out  V3  ).mono ?_
  rintro e V7 ⟨vW, rfl, ho9, h8⟩
  obtain ⟨AW, cW, rfl⟩ := own_sliceZ ho9
  have AN10 := Lib.hid (AN5.out.trans (h8.mono AN5.out.size))
  clear AN5
  have AN11 := Lib.hid (AN6.out.trans (h8.mono AN6.out.size))
  clear AN6
  clear h8
  have RW := Lib.hid (RdZ.of_own ho9 HV.out)
  clear ho9
  have AN12 := Lib.hid (Below.refl V7.heap.size V7)
  have S13 := Lib.hid (BX0.out.old AN11.out)
  have c14 : V7.cell? ⟨w.heap.size, 0, none⟩ = some (.int .i64 a00) := S13.out.cell 0
  have c15 : V7.cell? ⟨w.heap.size, 1, none⟩ = some (.int .i64 a01) := S13.out.cell 1
  have c16 : V7.cell? ⟨w.heap.size, 2, none⟩ = some (.int .i64 a02) := S13.out.cell 2
  have c17 : V7.cell? ⟨w.heap.size, 3, none⟩ = some (.int .i64 a03) := S13.out.cell 3
  have c18 : V7.cell? ⟨w.heap.size, 4, none⟩ = some (.int .i64 a04) := S13.out.cell 4
  have c19 : V7.cell? ⟨w.heap.size, 5, none⟩ = some (.int .i64 a05) := S13.out.cell 5
  go_wp2_with fail
  clear c14 c15 c16 c17 c18 c19 S13
  refine (motx.toMotion a00 a01 a02 a03 a04 a05 V7).mono ?_
  rintro e V20 ⟨rfl, h21⟩
  have AN22 := Lib.hid (AN10.out.trans (h21.mono AN10.out.size))
  clear AN10
  have AN23 := Lib.hid (AN11.out.trans (h21.mono AN11.out.size))
  clear AN11
  have AN24 := Lib.hid (AN12.out.trans (h21.mono AN12.out.size))
  clear AN12
  clear h21
  have LE25 := Lib.hid AN22.out.size
  have LE26 := Lib.hid AN23.out.size
  have LE27 := Lib.hid AN24.out.size
  go_wp2_with fail
  refine (HI.out  V20  ).mono ?_
  rintro e V28 ⟨vG, rfl, ho30, h29⟩
  obtain ⟨AG, cG, rfl⟩ := own_sliceZ ho30
  have AN31 := Lib.hid (AN22.out.trans (h29.mono AN22.out.size))
  clear AN22
  have AN32 := Lib.hid (AN23.out.trans (h29.mono AN23.out.size))
  clear AN23
  have AN33 := Lib.hid (AN24.out.trans (h29.mono AN24.out.size))
  clear AN24
  clear h29
  have OW34 := Lib.hid ho30
  have LT35 := Lib.hid (own_row_lt ho30)
  clear ho30
  have E36 := Lib.hid (plce.eqS V AG AW N cG cW V28 (by have := HNN.out; omega) (RdZ.of_own OW34.out HV.out) (RW.out.next AN33.out))
  go_wp2_with fail
  refine E36.out.mono ?_
  rintro e V37 ⟨rfl, h38⟩
  clear E36
  have AN39 := Lib.hid (AN31.out.trans (h38.mono AN31.out.size))
  clear AN31
  have AN40 := Lib.hid (AN32.out.trans (h38.mono AN32.out.size))
  clear AN32
  have AN41 := Lib.hid (AN33.out.trans (h38.mono AN33.out.size))
  clear AN33
  have OW42 := Lib.hid (own_.own_below OW34.out h38)
  clear OW34
  clear h38
  go_wp2_with fail
  refine (plce.markS V20.heap.size AG 1 N cG _ V37 (by have := HNN.out; omega) OW42.out).mono ?_
  rintro e V43 ⟨rfl, h44, hg45, ho46⟩
  have AN47 := Lib.hid (AN39.out.trans (h44.mono LE25.out))
  clear AN39
  have AN48 := Lib.hid (AN40.out.trans (h44.mono LE26.out))
  clear AN40
  have AN49 := Lib.hid (AN41.out.trans (h44.mono LE27.out))
  clear AN41
  clear OW42 h44 hg45
  have MG := Lib.hid (RdZ.of_own ho46 (marksI_length 1 (N * 2)))
  clear ho46
  have AN50 := Lib.hid (Below.refl V43.heap.size V43)
  have K5 : decide (((1 + N * 2 : Nat) : Int) < 0) = false := decide_eq_false (by omega)
  have K6 : (((1 + N * 2 : Nat) : Int) != ((1 + N * 2 : Nat) : Int)) = false := int_ne_self _
  have HH := Lib.hid (fun (W : World) h => plce.heldS AG 1 N cG W (by have := HNN.out; omega) (h))
  generalize ((1 + N * 2 : Nat) : Int) = K at *
  go_wp2_with fail
  refine (HH.out V43 (MG.out.next AN50.out)).mono ?_
  rintro e w' ⟨rfl, rfl⟩
  have S51 := Lib.hid (BX0.out.old AN48.out)
  have c52 : V43.cell? ⟨w.heap.size, 0, none⟩ = some (.int .i64 a00) := S51.out.cell 0
  have c53 : V43.cell? ⟨w.heap.size, 1, none⟩ = some (.int .i64 a01) := S51.out.cell 1
  have c54 : V43.cell? ⟨w.heap.size, 2, none⟩ = some (.int .i64 a02) := S51.out.cell 2
  have c55 : V43.cell? ⟨w.heap.size, 3, none⟩ = some (.int .i64 a03) := S51.out.cell 3
  have c56 : V43.cell? ⟨w.heap.size, 4, none⟩ = some (.int .i64 a04) := S51.out.cell 4
  have c57 : V43.cell? ⟨w.heap.size, 5, none⟩ = some (.int .i64 a05) := S51.out.cell 5
  go_wp2_with fail
  clear c52 c53 c54 c55 c56 c57 S51
  refine (motx.toMotion a00 a01 a02 a03 a04 a05 V43).mono ?_
  rintro e V58 ⟨rfl, h59⟩
  have AN60 := Lib.hid (AN47.out.trans (h59.mono AN47.out.size))
  clear AN47
  have AN61 := Lib.hid (AN48.out.trans (h59.mono AN48.out.size))
  clear AN48
  have AN62 := Lib.hid (AN49.out.trans (h59.mono AN49.out.size))
  clear AN49
  have AN63 := Lib.hid (AN50.out.trans (h59.mono AN50.out.size))
  clear AN50
  clear h59
  go_wp2_with fail
  refine (HI.out  V58  ).mono ?_
  rintro e V64 ⟨vH, rfl, ho66, h65⟩
  obtain ⟨AH, cH, rfl⟩ := own_sliceZ ho66
  have AN67 := Lib.hid (AN60.out.trans (h65.mono AN60.out.size))
  clear AN60
  have AN68 := Lib.hid (AN61.out.trans (h65.mono AN61.out.size))
  clear AN61
  have AN69 := Lib.hid (AN62.out.trans (h65.mono AN62.out.size))
  clear AN62
  have AN70 := Lib.hid (AN63.out.trans (h65.mono AN63.out.size))
  clear AN63
  clear h65
  have rd71 := RdZ.of_own ho66 HV.out
  have E72 := Lib.hid (plce.eqS V AH AW N cH cW V64 (by have := HNN.out; omega) (rd71) (RW.out.next AN69.out))
  go_wp2_with fail
  refine E72.out.mono ?_
  rintro e V73 ⟨rfl, h74⟩
  clear E72
  have AN75 := Lib.hid (AN67.out.trans (h74.mono AN67.out.size))
  clear AN67
  have AN76 := Lib.hid (AN68.out.trans (h74.mono AN68.out.size))
  clear AN68
  have AN77 := Lib.hid (AN69.out.trans (h74.mono AN69.out.size))
  clear AN69
  have AN78 := Lib.hid (AN70.out.trans (h74.mono AN70.out.size))
  clear AN70
  clear h74
  go_wp2_with fail
  refine (HH.out V73 (MG.out.next AN78.out)).mono ?_
  rintro e w' ⟨rfl, rfl⟩
  go_wp2_with fail
  go_ret
  exact ⟨rfl, AN75.out⟩

set_option maxRecDepth 100000 in
theorem walk (a00 : Int) (a01 : Int) (a02 : Int) (a03 : Int) (a04 : Int) (a05 : Int) (a1 : Int) (a2 : Int) (w : World) (w00 : (Lit.int .i64 a00).wf = true) (w01 : (Lit.int .i64 a01).wf = true) (w02 : (Lit.int .i64 a02).wf = true) (w03 : (Lit.int .i64 a03).wf = true) (w04 : (Lit.int .i64 a04).wf = true) (w05 : (Lit.int .i64 a05).wf = true) (w1 : (Lit.int .i64 a1).wf = true) (w2 : (Lit.int .i64 a2).wf = true) :
    Calls Try.prog 12 #[.agg #[.int .i64 a00, .int .i64 a01, .int .i64 a02, .int .i64 a03, .int .i64 a04, .int .i64 a05], .int .i64 a1, .int .i64 a2] w fun e w' => e = .returned (.bool true) ∧ Below w.heap.size w w' := by
  exact law_of a00 a01 a02 a03 a04 a05 a1 a2 (mot.pcV a00 a01 a02 a03 a04 a05 a1 a2) (mot.pcN a00 a01 a02 a03 a04 a05 a1 a2) (mot.pcB a00 a01 a02 a03 a04 a05 a1 a2) w (Nat.le_trans (mot.pcN_le a00 a01 a02 a03 a04 a05 a1 a2) (by omega)) (mot.pcV_length a00 a01 a02 a03 a04 a05 a1 a2)
    (fun w => mote.pathCells a00 a01 a02 a03 a04 a05 a1 a2 w)
    (fun w => motd.pathCells a00 a01 a02 a03 a04 a05 a1 a2 w)


theorem own : ownKnob Try.prog.godebug = none := by kernel_rfl
theorem laidOut : laidOutB Try.prog = true := by kernel_rfl

set_option maxRecDepth 100000 in
theorem lifted (os : Os) (started : os.Started) (H : Type) (enc : TypeId × Value → H) :
    ReturnsInHanded {} Try.checked os 12 .any (Rows.fnExactPathCellsSpec.pre6 enc Try.prog Try.f12 Rows.fnExactPathCellsRow.domain false) (Rows.fnExactPathCellsSpec.post enc Try.prog Try.f12 false true false false) := by
  refine returnsInHanded_of_change (C := Try.checked) own started (by kernel_rfl) Try.func12
    (ChangeSpec.witness6 (enc := enc) (C := Try.checked) false ⟨#[], #[.agg #[.int .i64 0, .int .i64 0, .int .i64 0, .int .i64 0, .int .i64 0, .int .i64 0], .int .i64 0, .int .i64 0], []⟩ 8 (by kernel_rfl) (by kernel_rfl) (by kernel_rfl) (by kernel_rfl)) ?_
  intro W base args ds gs before hval0 hW hcnd _
  have hval : ∀ (j : Nat) t v, Try.f12.params[j]? = some t → args[j]? = some v → Value.okWide Try.prog W .any base t v := hval0
  have hW' := hW
  obtain ⟨p, q, hA0, hV, rfl, hfz, hnd⟩ := hW
  have hA : DataW.TrodAll enc Try.prog W 0 (fun _ => true) true Try.f12.params.toList args.toList ds p := hA0
  rw [Try.params12] at hA hval
  obtain ⟨v0, vs0, d0, ds0, p0, q0, hargs, rfl, rfl, h0, r0⟩ := trodAll_cons hA
  obtain ⟨v1, vs1, d1, ds1, p1, q1, rfl, rfl, rfl, h1, r1⟩ := trodAll_cons r0
  obtain ⟨v2, vs2, d2, ds2, p2, q2, rfl, rfl, rfl, h2, r2⟩ := trodAll_cons r1
  obtain ⟨rfl, rfl, rfl⟩ := trodAll_nil r2
  obtain rfl : args = #[v0, v1, v2] := by cases args; simp_all
  obtain ⟨rfl, rfl⟩ := trodVars_none hV
  have k0 := h0
  have lt0 : ∀ x ∈ p0, x.block < W.heap.size := by obtain ⟨m, hm⟩ := k0; exact DataW.trod_lt m _ _ _ hm
  obtain ⟨a00, a01, a02, a03, a04, a05, rfl, w00, w01, w02, w03, w04, w05⟩ := moto.open_motion (hval 0 51 v0 rfl rfl) h0
  obtain ⟨a1, rfl, rfl, rfl, w1⟩ := open_int Try.underlying3 (hval 1 3 v1 rfl rfl) h1
  obtain ⟨a2, rfl, rfl, rfl, w2⟩ := open_int Try.underlying3 (hval 2 3 v2 rfl rfl) h2
  clear hA0 hval0
  refine (walk a00 a01 a02 a03 a04 a05 a1 a2 W w00 w01 w02 w03 w04 w05 w1 w2).mono fun e W' ⟨he, bel⟩ => ?_
  subst he
  exact ⟨_, rfl, _, _, _, [], _, [], hW', trodAll_mk1 (shut_bool Try.underlying4 _), (trodAll_cons_mk (Below.trod laidOut (by kernel_rfl) (of_decide_eq_true (by kernel_rfl)) k0 bel lt0) (trodAll_cons_mk (shut_int Try.underlying3 w1) (trodAll_cons_mk (shut_int Try.underlying3 w2) trodAll_mk0))), rfl, bel.frame _, fun h => by cases h⟩

theorem over : Rows.fnExactPathCellsRow.holds Try.pinned (OpenSpec.ofChange Rows.fnExactPathCellsSpec) :=
  OpenClaim.holds_of_wide 12 Try.f12 rfl rfl rfl rfl rfl rfl rfl ⟨rfl, rfl, rfl, rfl, rfl⟩ rfl rfl rfl rfl rfl (by kernel_rfl) Try.func12 (by kernel_rfl)
    (of_decide_eq_true (by kernel_rfl)) (by unfold Func.isWrapper; first | (rw [if_pos (by decide +kernel)]; kernel_rfl) | (rw [if_neg (by decide +kernel)]; exact ⟨rfl, rfl⟩))
    (fun os started H enc _ => lifted os started H enc)

theorem proved : Rows.FnExactPathCellsSaid :=
  over
#print axioms proved
end Go.Proofs.Ytinkkdgjpcnklaa.fnExactPathCells
