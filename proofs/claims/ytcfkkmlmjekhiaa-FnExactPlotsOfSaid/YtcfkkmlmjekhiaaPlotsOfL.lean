/- For every slice of sightings and all ints the law FnExactPlotsOf returns true: impl.PlotsOf and spec.PlotsOf return the same plots and true, or both an empty slice and false; the argument is left as it was, the results share no memory. No condition. -/
import Derived.Test.YtcfkkmlmjekhiaaRows
import Derived.Test.YtcfkkmlmjekhiaaPltT
import Derived.Test.YtcfkkmlmjekhiaaPltN
import Derived.Test.YtcfkkmlmjekhiaaPltF
import Derived.Test.YtcfkkmlmjekhiaaPltO
import Derived.Test.YtcfkkmlmjekhiaaIntC
import Derived.Test.YtcfkkmlmjekhiaaLstO
import Derived.Test.YtcfkkmlmjekhiaaPltE
import Derived.WalkKit
import Derived.ProofKit
import Derived.OpenShut
import Derived.ShutString
import Derived.ChangeOld
import Derived.Below
import Derived.Lib.SmallJoins
import Derived.Lib.QuietBelow
import Derived.Deep.RegionHeld3
import Derived.Deep.CutRange
namespace Go.Proofs.Ytcfkkmlmjekhiaa.fnExactPlotsOf
open Go.Proofs.Ytcfkkmlmjekhiaa.pltn0 Go.Proofs.Ytcfkkmlmjekhiaa.pltd Go.Proofs.Ytcfkkmlmjekhiaa.pltf Go.ChangeShapes Go.WideShapes Go.ChangeAt Go.RowKit Go.Joins Go.Proofs.Ytcfkkmlmjekhiaa.ats Go.Proofs.Ytcfkkmlmjekhiaa.ints Go.Proofs.Ytcfkkmlmjekhiaa.lst Go.Proofs.Ytcfkkmlmjekhiaa.intc Go.Proofs.Ytcfkkmlmjekhiaa.code_
open Go.ChangeMaps (open_string shut_string)
set_option linter.unusedVariables false

theorem bool_ne_self (b : Bool) : (b != b) = false := by simp
theorem int_ne_self (x : Int) : (x != x) = false := by simp
theorem gp_kept {zs : List Int} {B : Nat} {W W' : World} {v : Value} {G : List (List Nat)} {b : Option Nat} (h : GP zs B W v G) (hg : W.grownBy W' b) (hb : ∀ g, b = some g → g < B) : GP zs B W' v G := by
  obtain ⟨us, h1, h2, h3⟩ := h
  exact ⟨us, h1, own_kept h2 hg hb, h3.kept hg fun g i u e hu hg0 => by
    have := h3.ge hu hg0
    have := hb g e
    omega⟩
theorem kk_bound {ps : List Pl} {k n : Nat} (h : ∀ i, i < n → ln ps i ≤ 20) : kk k ps n ≤ k + 24 * n := by
  induction n with
  | zero => simp [kk]
  | succ m ih =>
    have h1 := ih (fun i hi => h i (by omega))
    have h2 := h m (by omega)
    rw [kk]
    omega
theorem ggV_small {zs : List Int} {n : Nat} {w r : Int} : (plt.ggV zs n w r).length ≤ 20 ∧ ∀ q ∈ plt.ggV zs n w r, q.length ≤ 20 := by
  cases hq : plt.asB zs n w r
  · rw [plt.ggV_no hq]
    simp
  · rw [plt.ggV_yes hq]
    have h20 := (plt.svB_yes (plt.asB_yes hq).1).2
    refine ⟨Nat.le_trans (plt.grp_len zs w r n) h20, fun q hm => ?_⟩
    obtain ⟨g, hg, e⟩ := List.getElem_of_mem hm
    exact Nat.le_trans (plt.grp_small (g := g) (by rw [List.getElem?_eq_getElem hg, e])) h20
theorem ln_small {zs : List Int} {n : Nat} {w r : Int} (i : Nat) : ln ((plt.ggV zs n w r).map (plP zs)) i ≤ 20 := by
  unfold ln
  rw [List.getD_eq_getElem?_getD, List.getElem?_map]
  cases h : (plt.ggV zs n w r)[i]? with
  | none => simp
  | some q =>
    show (pltm.plL zs q).length ≤ 20
    rw [pltm.plL_length]
    exact ggV_small.2 q (List.mem_of_getElem? h)

/-- The function f returns this. -/
def Gives (f : Nat) (z0 : List Int) (n0 : Nat) (a1 : Int) (a2 : Int) (V : List (List Nat)) (O0 : Bool) : Prop := ∀ (A0 : Option Addr) (c0 : Nat) (w : World), n0 ≤ c0 → RdZ 5 w w.heap.size A0 n0 z0 → 
  Calls Try.prog f #[.slice A0 n0 c0, .int .i64 a1, .int .i64 a2] w fun e w' => ∃ v, e = .returned (.tuple #[v, .bool O0]) ∧ GP z0 w.heap.size w' v V ∧ Below w.heap.size w w'

set_option maxRecDepth 100000 in
set_option maxHeartbeats 8000000 in
theorem law_of (a0 : Option Addr) (c0 : Nat) (z0 : List Int) (n0 : Nat) (a1 : Int) (a2 : Int) (V : List (List Nat)) (O0 : Bool) (w : World) (hn0 : n0 ≤ 1048576) (hr0 : RdZ 5 w w.heap.size a0 n0 z0) (hN : V.length ≤ 20) (hV : ∀ q ∈ V, q.length ≤ 1048577) (hK : kk 1 (V.map (plP z0)) V.length ≤ 2097152)
    (hs : Gives 17 z0 n0 a1 a2 V O0) (hi : Gives 16 z0 n0 a1 a2 V O0) :
    Calls Try.prog 6 #[.slice a0 n0 c0, .int .i64 a1, .int .i64 a2] w fun e w' => e = .returned (.bool true) ∧ Below w.heap.size w w' := by
  have HZ0 := Lib.hid (fun w => plte.sz a0 n0 c0 w (by unfold maxLen; omega))
  rw [if_pos hn0] at HZ0
  have d0 : decide ((1048576 : Int) - (n0 : Int) < 0) = false := decide_eq_false (by omega)
  have HC0 := Lib.hid (fun (w' : World) (hb : Below w.heap.size w w') => plte.copyS z0 a0 n0 c0 w' hn0 (hr0.next hb))
  have HL0 := Lib.hid hr0.1
  have HS := Lib.hid (fun (A0 : Option Addr) (c0 : Nat) (w : World) (e0 : n0 ≤ c0) (h0 : RdZ 5 w w.heap.size A0 n0 z0) => hs A0 c0 w e0 h0)
  have HI := Lib.hid (fun (A0 : Option Addr) (c0 : Nat) (w : World) (e0 : n0 ≤ c0) (h0 : RdZ 5 w w.heap.size A0 n0 z0) => hi A0 c0 w e0 h0)
  have HV := Lib.hid hV
  have HNN := Lib.hid hN
  have HKB := Lib.hid hK
  have ne0 := bool_ne_self O0
  clear hs hi hr0 hV hK hN
  go_enter Try.func6, Try.ntmps6
  go_wp2_with fail
  refine (HZ0.out w).mono ?_
  rintro e w' ⟨rfl, rfl⟩
  have AN1 := Lib.hid (Below.refl w.heap.size w)
  go_wp2_with fail
  refine (HC0.out w AN1.out).mono ?_
  rintro e V2 ⟨g5, rfl, ho4, h3⟩
  have AN6 := Lib.hid (AN1.out.trans (h3.mono AN1.out.size))
  clear AN1
  have rd7 := Lib.hid (RdZ.of_own ho4 HL0.out)
  clear h3 ho4
  go_wp2_with fail
  refine (HS.out _ _ V2 (Nat.le_refl _) rd7.out).mono ?_
  rintro e V8 ⟨vW, rfl, ho10, h9⟩
  obtain ⟨AW, cW, rfl⟩ := ho10.slice
  clear rd7
  have AN11 := Lib.hid (AN6.out.trans (h9.mono AN6.out.size))
  clear AN6
  clear h9
  have RW := Lib.hid ho10
  clear ho10
  have AN12 := Lib.hid (Below.refl V8.heap.size V8)
  go_wp2_with fail
  refine (HC0.out V8 AN11.out).mono ?_
  rintro e V13 ⟨g16, rfl, ho15, h14⟩
  have LE17 := Lib.hid AN11.out.size
  have LE18 := Lib.hid AN12.out.size
  have AN19 := Lib.hid (AN11.out.trans (h14.mono AN11.out.size))
  clear AN11
  have AN20 := Lib.hid (AN12.out.trans (h14.mono AN12.out.size))
  clear AN12
  have rd21 := Lib.hid (RdZ.of_own ho15 HL0.out)
  have OW22 := Lib.hid ho15
  have LT23 := Lib.hid (own_row_lt ho15)
  have AN24 := Lib.hid (Below.refl V13.heap.size V13)
  clear h14 ho15
  have rd25 := Lib.hid (RdZ.of_own OW22.out HL0.out)
  have LE26 := Lib.hid AN19.out.size
  have LE27 := Lib.hid AN20.out.size
  have LE28 := Lib.hid AN24.out.size
  go_wp2_with fail
  refine (HI.out _ _ V13 (Nat.le_refl _) rd25.out).mono ?_
  rintro e V29 ⟨vG, rfl, ho31, h30⟩
  obtain ⟨AG, cG, rfl⟩ := ho31.slice
  clear rd25
  have AN32 := Lib.hid (AN19.out.trans (h30.mono AN19.out.size))
  clear AN19
  have AN33 := Lib.hid (AN20.out.trans (h30.mono AN20.out.size))
  clear AN20
  have AN34 := Lib.hid (AN24.out.trans (h30.mono AN24.out.size))
  clear AN24
  have OW35 := Lib.hid (own_.own_below OW22.out h30)
  clear OW22
  clear h30
  clear AN34
  have OW36 := Lib.hid ho31
  clear ho31
  have E38 := Lib.hid (pltc.eqPlotS z0 _ _ AG AW V V.length cG cW V29 rfl (by have := HNN.out; omega) HV.out OW36.out (RW.out.below AN33.out))
  go_wp2_with fail
  refine E38.out.mono ?_
  rintro e V40 ⟨rfl, h39⟩
  clear E38
  have AN41 := Lib.hid (AN32.out.trans (h39.mono AN32.out.size))
  clear AN32
  have AN42 := Lib.hid (AN33.out.trans (h39.mono AN33.out.size))
  clear AN33
  have OW43 := Lib.hid (own_.own_below OW35.out h39)
  clear OW35
  have OW44 := Lib.hid (OW36.out.below h39)
  clear OW36
  go_wp2_with fail
  refine (HC0.out V40 AN41.out).mono ?_
  rintro e V45 ⟨g48, rfl, ho47, h46⟩
  have AN49 := Lib.hid (AN41.out.trans (h46.mono AN41.out.size))
  clear AN41
  have AN50 := Lib.hid (AN42.out.trans (h46.mono AN42.out.size))
  clear AN42
  have OW51 := Lib.hid (own_.own_below OW43.out h46)
  clear OW43
  have OW52 := Lib.hid (OW44.out.below h46)
  clear OW44
  have rd53 := Lib.hid (RdZ.of_own ho47 HL0.out)
  clear h46 ho47
  have E54 := Lib.hid (plte.eqS z0 _ _ n0 n0 n0 V45 (by omega) (RdZ.of_own OW51.out HL0.out) rd53.out)
  clear rd53
  go_wp2_with fail
  refine E54.out.mono ?_
  rintro e V55 ⟨rfl, h56⟩
  clear E54
  have AN57 := Lib.hid (AN49.out.trans (h56.mono AN49.out.size))
  clear AN49
  have AN58 := Lib.hid (AN50.out.trans (h56.mono AN50.out.size))
  clear AN50
  have OW59 := Lib.hid (own_.own_below OW51.out h56)
  clear OW51
  have OW60 := Lib.hid (OW52.out.below h56)
  clear OW52
  clear h56
  go_wp2_with fail
  refine (plte.markS V8.heap.size (some ⟨g16, 0, none⟩) 1 n0 n0 _ V55 (by omega) OW59.out).mono ?_
  rintro e V61 ⟨rfl, h62, hg63, ho64⟩
  have AN65 := Lib.hid (AN57.out.trans (h62.mono LE17.out))
  clear AN57
  have AN66 := Lib.hid (AN58.out.trans (h62.mono LE18.out))
  clear AN58
  have OW67 := Lib.hid (gp_kept OW60.out hg63 (fun q hq => Nat.lt_of_lt_of_le (LT23.out q hq) LE28.out))
  clear OW60
  clear OW59 h62 hg63
  clear ho64
  have KN : decide (((1 + n0 * 5 : Nat) : Int) < 0) = false := decide_eq_false (by omega)
  generalize ((1 + n0 * 5 : Nat) : Int) = KK at *
  have E68 := Lib.hid (pltc.eqPlotS z0 _ _ AG AW V V.length cG cW V61 rfl (by have := HNN.out; omega) HV.out OW67.out (RW.out.below AN66.out))
  go_wp2_with fail
  refine E68.out.mono ?_
  rintro e V70 ⟨rfl, h69⟩
  clear E68
  have AN71 := Lib.hid (AN65.out.trans (h69.mono AN65.out.size))
  clear AN65
  have AN72 := Lib.hid (AN66.out.trans (h69.mono AN66.out.size))
  clear AN66
  have OW73 := Lib.hid (OW67.out.below h69)
  clear OW67
  clear KN
  go_wp2_with fail
  refine (pltf.markPlotS V13.heap.size AG 1 V.length cG (V.map (plP z0)) V70 (List.length_map _) (by have := HNN.out; omega) HKB.out (GQ.of OW73.out)).mono ?_
  rintro e V74 ⟨rfl, h75, ho77⟩
  have AN78 := Lib.hid (AN71.out.trans (h75.mono LE26.out))
  clear AN71
  have AN79 := Lib.hid (AN72.out.trans (h75.mono LE27.out))
  clear AN72
  clear OW73 h75
  have MG := Lib.hid ho77
  clear ho77
  have AN80 := Lib.hid (Below.refl V74.heap.size V74)
  have K5 : decide (((kk 1 (V.map (plP z0)) V.length : Nat) : Int) < 0) = false := decide_eq_false (by omega)
  have K6 : (((kk 1 (V.map (plP z0)) V.length : Nat) : Int) != ((kk 1 (V.map (plP z0)) V.length : Nat) : Int)) = false := int_ne_self _
  have HH := Lib.hid (fun (W : World) h => pltf.heldPlotS V13.heap.size AG 1 V.length cG (V.map (plP z0)) W (List.length_map _) (by have := HNN.out; omega) HKB.out h)
  generalize ((kk 1 (V.map (plP z0)) V.length : Nat) : Int) = K at *
  go_wp2_with fail
  refine (HH.out V74 (MG.out.below AN80.out)).mono ?_
  rintro e w' ⟨rfl, rfl⟩
  go_wp2_with fail
  refine (HC0.out V74 AN78.out).mono ?_
  rintro e V81 ⟨g84, rfl, ho83, h82⟩
  have AN85 := Lib.hid (AN78.out.trans (h82.mono AN78.out.size))
  clear AN78
  have AN86 := Lib.hid (AN79.out.trans (h82.mono AN79.out.size))
  clear AN79
  have AN87 := Lib.hid (AN80.out.trans (h82.mono AN80.out.size))
  clear AN80
  have rd88 := Lib.hid (RdZ.of_own ho83 HL0.out)
  clear h82 ho83
  go_wp2_with fail
  refine (HI.out _ _ V81 (Nat.le_refl _) rd88.out).mono ?_
  rintro e V89 ⟨vH, rfl, ho91, h90⟩
  obtain ⟨AH, cH, rfl⟩ := ho91.slice
  clear rd88
  have AN92 := Lib.hid (AN85.out.trans (h90.mono AN85.out.size))
  clear AN85
  have AN93 := Lib.hid (AN86.out.trans (h90.mono AN86.out.size))
  clear AN86
  have AN94 := Lib.hid (AN87.out.trans (h90.mono AN87.out.size))
  clear AN87
  clear h90
  have E96 := Lib.hid (pltc.eqPlotS z0 _ _ AH AW V V.length cH cW V89 rfl (by have := HNN.out; omega) HV.out ho91 (RW.out.below AN93.out))
  go_wp2_with fail
  refine E96.out.mono ?_
  rintro e V98 ⟨rfl, h97⟩
  clear E96
  have AN99 := Lib.hid (AN92.out.trans (h97.mono AN92.out.size))
  clear AN92
  have AN100 := Lib.hid (AN93.out.trans (h97.mono AN93.out.size))
  clear AN93
  have AN101 := Lib.hid (AN94.out.trans (h97.mono AN94.out.size))
  clear AN94
  go_wp2_with fail
  refine (HH.out V98 (MG.out.below AN101.out)).mono ?_
  rintro e w' ⟨rfl, rfl⟩
  go_wp2_with fail
  go_ret
  exact ⟨rfl, AN99.out⟩

set_option maxRecDepth 100000 in
theorem walk (a0 : Option Addr) (n0 c0 : Nat) (z0 : List Int) (a1 : Int) (a2 : Int) (w : World) (w0 : RdZ 5 w w.heap.size a0 n0 z0) (l0 : n0 ≤ maxLen) (w1 : (Lit.int .i64 a1).wf = true) (w2 : (Lit.int .i64 a2).wf = true) :
    Calls Try.prog 6 #[.slice a0 n0 c0, .int .i64 a1, .int .i64 a2] w fun e w' => e = .returned (.bool true) ∧ Below w.heap.size w w' := by
  by_cases hn0 : n0 ≤ 1048576
  · skip
    exact law_of a0 c0 z0 n0 a1 a2 (plt.ggV z0 n0 a1 a2) (plt.asB z0 n0 a1 a2) w hn0 w0 ggV_small.1 (fun q hq => Nat.le_trans (ggV_small.2 q hq) (by omega)) (Nat.le_trans (kk_bound (fun i _ => ln_small i)) (by have := (ggV_small (zs := z0) (n := n0) (w := a1) (r := a2)).1; omega))
      (fun A0 c0 w hc0 h0 => pltt.plotsOf z0 a1 a2 A0 n0 c0 w (by omega) h0)
      (fun A0 c0 w hc0 h0 => pltn.plotsOf z0 a1 a2 A0 n0 c0 w (by omega) h0)
  · have HZ0 := Lib.hid (plte.sz a0 n0 c0 w l0)
    rw [if_neg hn0] at HZ0
    clear w0 l0 w1 w2 hn0
    go_enter Try.func6, Try.ntmps6
    go_wp2_with fail
    refine (HZ0.out).mono ?_
    rintro e w' ⟨rfl, rfl⟩
    go_wp2_with fail
    go_ret
    exact ⟨rfl, Below.refl _ _⟩


theorem own : ownKnob Try.prog.godebug = none := by kernel_rfl
theorem laidOut : laidOutB Try.prog = true := by kernel_rfl

set_option maxRecDepth 100000 in
theorem lifted (os : Os) (started : os.Started) (H : Type) (enc : TypeId × Value → H) :
    ReturnsInHanded {} Try.checked os 6 .any (Rows.fnExactPlotsOfSpec.pre6 enc Try.prog Try.f6 Rows.fnExactPlotsOfRow.domain false) (Rows.fnExactPlotsOfSpec.post enc Try.prog Try.f6 false true false false) := by
  refine returnsInHanded_of_change (C := Try.checked) own started (by kernel_rfl) Try.func6
    (ChangeSpec.witness6 (enc := enc) (C := Try.checked) false ⟨#[], #[.slice none 0 0, .int .i64 0, .int .i64 0], []⟩ 8 (by kernel_rfl) (by kernel_rfl) (by kernel_rfl) (by kernel_rfl)) ?_
  intro W base args ds gs before hval0 hW hcnd _
  have hval : ∀ (j : Nat) t v, Try.f6.params[j]? = some t → args[j]? = some v → Value.okWide Try.prog W .any base t v := hval0
  have hW' := hW
  obtain ⟨p, q, hA0, hV, rfl, hfz, hnd⟩ := hW
  have hA : DataW.TrodAll enc Try.prog W 0 (fun _ => true) true Try.f6.params.toList args.toList ds p := hA0
  rw [Try.params6] at hA hval
  obtain ⟨v0, vs0, d0, ds0, p0, q0, hargs, rfl, rfl, h0, r0⟩ := trodAll_cons hA
  obtain ⟨v1, vs1, d1, ds1, p1, q1, rfl, rfl, rfl, h1, r1⟩ := trodAll_cons r0
  obtain ⟨v2, vs2, d2, ds2, p2, q2, rfl, rfl, rfl, h2, r2⟩ := trodAll_cons r1
  obtain ⟨rfl, rfl, rfl⟩ := trodAll_nil r2
  obtain rfl : args = #[v0, v1, v2] := by cases args; simp_all
  obtain ⟨rfl, rfl⟩ := trodVars_none hV
  obtain ⟨a0, len0, cap0, rfl⟩ := okWide_slice Try.underlying46 (hval 0 46 v0 rfl rfl)
  have k0 := h0
  have lt0 : ∀ x ∈ p0, x.block < W.heap.size := by obtain ⟨m, hm⟩ := k0; exact DataW.trod_lt m _ _ _ hm
  obtain ⟨z0, w0, n0⟩ : ∃ zs, lst.RdZ 5 W W.heap.size a0 len0 zs ∧ len0 ≤ maxLen := by
    obtain ⟨fuel, hf⟩ := h0
    obtain ⟨A, n, c, zs, hcs, hrd, hle⟩ := plto.open_sightings hf
    simp [Value.cells] at hcs
    obtain ⟨rfl, rfl, rfl⟩ := hcs
    exact ⟨zs, hrd, hle⟩
  obtain ⟨a1, rfl, rfl, rfl, w1⟩ := open_int Try.underlying3 (hval 1 3 v1 rfl rfl) h1
  obtain ⟨a2, rfl, rfl, rfl, w2⟩ := open_int Try.underlying3 (hval 2 3 v2 rfl rfl) h2
  clear hA0 hval0
  refine (walk a0 len0 cap0 z0 a1 a2 W w0 n0 w1 w2).mono fun e W' ⟨he, bel⟩ => ?_
  subst he
  exact ⟨_, rfl, _, _, _, [], _, [], hW', trodAll_mk1 (shut_bool Try.underlying4 _), (trodAll_cons_mk (Below.trod laidOut (by kernel_rfl) (of_decide_eq_true (by kernel_rfl)) k0 bel lt0) (trodAll_cons_mk (shut_int Try.underlying3 w1) (trodAll_cons_mk (shut_int Try.underlying3 w2) trodAll_mk0))), rfl, bel.frame _, fun h => by cases h⟩

theorem over : Rows.fnExactPlotsOfRow.holds Try.pinned (OpenSpec.ofChange Rows.fnExactPlotsOfSpec) :=
  OpenClaim.holds_of_wide 6 Try.f6 rfl rfl rfl rfl rfl rfl rfl ⟨rfl, rfl, rfl, rfl, rfl⟩ rfl rfl rfl rfl rfl (by kernel_rfl) Try.func6 (by kernel_rfl)
    (of_decide_eq_true (by kernel_rfl)) (by unfold Func.isWrapper; first | (rw [if_pos (by decide +kernel)]; kernel_rfl) | (rw [if_neg (by decide +kernel)]; exact ⟨rfl, rfl⟩))
    (fun os started H enc _ => lifted os started H enc)

theorem proved : Rows.FnExactPlotsOfSaid :=
  over
#print axioms proved
end Go.Proofs.Ytcfkkmlmjekhiaa.fnExactPlotsOf
