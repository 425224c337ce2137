/- For every slice of sites, every slice of ints and every int the law FnExactHelpfulSite returns true: impl.HelpfulSite and spec.HelpfulSite return the same index and true, or both 0 and false; the arguments are left as they were. No condition. -/
import Derived.Test.YtpbopiecfnedgabRows
import Derived.Test.YtpbopiecfnedgabLocH
import Derived.Test.YtpbopiecfnedgabIntC
import Derived.Test.YtpbopiecfnedgabLstO
import Derived.Test.YtpbopiecfnedgabSitE
import Derived.WalkKit
import Derived.ProofKit
import Derived.OpenShut
import Derived.ShutString
import Derived.ChangeOld
import Derived.Below
import Derived.Lib.SmallJoins
import Derived.Lib.QuietBelow
import Derived.Deep.RegionHeld3
import Derived.Deep.CutRange
namespace Go.Proofs.Ytpbopiecfnedgab.fnExactHelpfulSite
open Go.ChangeShapes Go.WideShapes Go.ChangeAt Go.RowKit Go.Joins Go.Proofs.Ytpbopiecfnedgab.ats Go.Proofs.Ytpbopiecfnedgab.ints Go.Proofs.Ytpbopiecfnedgab.lst Go.Proofs.Ytpbopiecfnedgab.intc Go.Proofs.Ytpbopiecfnedgab.code_
open Go.ChangeMaps (open_string shut_string)
set_option linter.unusedVariables false

theorem bool_ne_self (b : Bool) : (b != b) = false := by simp
theorem int_ne_self (x : Int) : (x != x) = false := by simp

/-- The function f returns this. -/
def Gives (f : Nat) (z0 : List Int) (n0 : Nat) (z1 : List Int) (n1 : Nat) (a2 : Int) (O0 : Int) (O1 : Bool) : Prop := ∀ (A0 : Option Addr) (c0 : Nat) (A1 : Option Addr) (c1 : Nat) (w : World), n0 ≤ c0 → n1 ≤ c1 → RdZ 2 w w.heap.size A0 n0 z0 → RdI w w.heap.size A1 n1 z1 → 
  Calls Try.prog f #[.slice A0 n0 c0, .slice A1 n1 c1, .int .i64 a2] w fun e w' => e = .returned (.tuple #[.int .i64 O0, .bool O1]) ∧ Below w.heap.size w w'

set_option maxRecDepth 100000 in
set_option maxHeartbeats 8000000 in
theorem law_of (a0 : Option Addr) (c0 : Nat) (a1 : Option Addr) (c1 : Nat) (z0 : List Int) (n0 : Nat) (z1 : List Int) (n1 : Nat) (a2 : Int) (O0 : Int) (O1 : Bool) (w : World) (hn0 : n0 ≤ 1048576) (hr0 : RdZ 2 w w.heap.size a0 n0 z0) (hn1 : n1 ≤ 1048576) (hr1 : RdI w w.heap.size a1 n1 z1)
    (hs : Gives 36 z0 n0 z1 n1 a2 O0 O1) (hi : Gives 37 z0 n0 z1 n1 a2 O0 O1) :
    Calls Try.prog 9 #[.slice a0 n0 c0, .slice a1 n1 c1, .int .i64 a2] w fun e w' => e = .returned (.bool true) ∧ Below w.heap.size w w' := by
  have HZ0 := Lib.hid (fun w => site.sz a0 n0 c0 w (by unfold maxLen; omega))
  rw [if_pos hn0] at HZ0
  have d0 : decide ((1048576 : Int) - (n0 : Int) < 0) = false := decide_eq_false (by omega)
  have HC0 := Lib.hid (fun (w' : World) (hb : Below w.heap.size w w') => site.copyS z0 a0 n0 c0 w' hn0 (hr0.next hb))
  have HL0 := Lib.hid hr0.1
  have d1 : ¬ (1048576 : Int) < (n1 : Int) := by omega
  have HC1 := Lib.hid (fun (w' : World) (hb : Below w.heap.size w w') => intc.copyI z1 a1 n1 c1 w' hn1 (hr1.next hb))
  have HL1 := Lib.hid hr1.1
  have HS := Lib.hid (fun (A0 : Option Addr) (c0 : Nat) (A1 : Option Addr) (c1 : Nat) (w : World) (e0 : n0 ≤ c0) (e1 : n1 ≤ c1) (h0 : RdZ 2 w w.heap.size A0 n0 z0) (h1 : RdI w w.heap.size A1 n1 z1) => hs A0 c0 A1 c1 w e0 e1 h0 h1)
  have HI := Lib.hid (fun (A0 : Option Addr) (c0 : Nat) (A1 : Option Addr) (c1 : Nat) (w : World) (e0 : n0 ≤ c0) (e1 : n1 ≤ c1) (h0 : RdZ 2 w w.heap.size A0 n0 z0) (h1 : RdI w w.heap.size A1 n1 z1) => hi A0 c0 A1 c1 w e0 e1 h0 h1)
  have ne0 := int_ne_self O0
  have ne1 := bool_ne_self O1
  clear hs hi hr0 hr1
  go_enter Try.func9, Try.ntmps9
  go_wp2_with fail
  refine (HZ0.out w).mono ?_
  rintro e w' ⟨rfl, rfl⟩
  have AN1 := Lib.hid (Below.refl w.heap.size w)
  go_wp2_with fail
  refine (HC0.out w AN1.out).mono ?_
  rintro e V2 ⟨g5, rfl, ho4, h3⟩
  have AN6 := Lib.hid (AN1.out.trans (h3.mono AN1.out.size))
  clear AN1
  have rd7 := Lib.hid (RdZ.of_own ho4 HL0.out)
  clear h3 ho4
  go_wp2_with fail
  refine (HC1.out V2 AN6.out).mono ?_
  rintro e V8 ⟨g11, rfl, ho10, h9⟩
  have AN12 := Lib.hid (AN6.out.trans (h9.mono AN6.out.size))
  clear AN6
  have rd13 := Lib.hid (rd7.out.next h9)
  clear rd7
  have rd14 := Lib.hid (intc.rd_of_own ho10 HL1.out)
  clear h9 ho10
  go_wp2_with fail
  refine (HS.out _ _ _ _ V8 (Nat.le_refl _) (Nat.le_refl _) rd13.out rd14.out).mono ?_
  rintro e V15 ⟨rfl, h16⟩
  clear rd13 rd14
  have AN18 := Lib.hid (AN12.out.trans (h16.mono AN12.out.size))
  clear AN12
  clear h16
  go_wp2_with fail
  refine (HC0.out V15 AN18.out).mono ?_
  rintro e V19 ⟨g22, rfl, ho21, h20⟩
  have LE23 := Lib.hid AN18.out.size
  have AN24 := Lib.hid (AN18.out.trans (h20.mono AN18.out.size))
  clear AN18
  have rd25 := Lib.hid (RdZ.of_own ho21 HL0.out)
  have OW26 := Lib.hid ho21
  have LT27 := Lib.hid (own_row_lt ho21)
  have AN28 := Lib.hid (Below.refl V19.heap.size V19)
  clear h20 ho21
  go_wp2_with fail
  refine (HC1.out V19 AN24.out).mono ?_
  rintro e V29 ⟨g32, rfl, ho31, h30⟩
  have LE33 := Lib.hid AN24.out.size
  have LE34 := Lib.hid AN28.out.size
  have AN35 := Lib.hid (AN24.out.trans (h30.mono AN24.out.size))
  clear AN24
  have AN36 := Lib.hid (AN28.out.trans (h30.mono AN28.out.size))
  clear AN28
  have OW37 := Lib.hid (own_.own_below OW26.out h30)
  clear OW26
  have rd38 := Lib.hid (intc.rd_of_own ho31 HL1.out)
  have OW39 := Lib.hid ho31
  have LT40 := Lib.hid (own_row_lt ho31)
  have AN41 := Lib.hid (Below.refl V29.heap.size V29)
  clear h30 ho31
  have rd42 := Lib.hid (RdZ.of_own OW37.out HL0.out)
  have rd43 := Lib.hid (intc.rd_of_own OW39.out HL1.out)
  have LE44 := Lib.hid AN35.out.size
  have LE45 := Lib.hid AN36.out.size
  have LE46 := Lib.hid AN41.out.size
  go_wp2_with fail
  refine (HI.out _ _ _ _ V29 (Nat.le_refl _) (Nat.le_refl _) rd42.out rd43.out).mono ?_
  rintro e V47 ⟨rfl, h48⟩
  clear rd42 rd43
  have AN50 := Lib.hid (AN35.out.trans (h48.mono AN35.out.size))
  clear AN35
  have AN51 := Lib.hid (AN36.out.trans (h48.mono AN36.out.size))
  clear AN36
  have AN52 := Lib.hid (AN41.out.trans (h48.mono AN41.out.size))
  clear AN41
  have OW53 := Lib.hid (own_.own_below OW37.out h48)
  clear OW37
  have OW54 := Lib.hid (own_.own_below OW39.out h48)
  clear OW39
  clear h48
  clear AN51
  clear AN52
  go_wp2_with fail
  refine (HC0.out V47 AN50.out).mono ?_
  rintro e V55 ⟨g58, rfl, ho57, h56⟩
  have AN59 := Lib.hid (AN50.out.trans (h56.mono AN50.out.size))
  clear AN50
  have OW60 := Lib.hid (own_.own_below OW53.out h56)
  clear OW53
  have OW61 := Lib.hid (own_.own_below OW54.out h56)
  clear OW54
  have rd62 := Lib.hid (RdZ.of_own ho57 HL0.out)
  clear h56 ho57
  have E63 := Lib.hid (site.eqS z0 _ _ n0 n0 n0 V55 (by omega) (RdZ.of_own OW60.out HL0.out) rd62.out)
  clear rd62
  go_wp2_with fail
  refine E63.out.mono ?_
  rintro e V64 ⟨rfl, h65⟩
  clear E63
  have AN66 := Lib.hid (AN59.out.trans (h65.mono AN59.out.size))
  clear AN59
  have OW67 := Lib.hid (own_.own_below OW60.out h65)
  clear OW60
  have OW68 := Lib.hid (own_.own_below OW61.out h65)
  clear OW61
  clear h65
  go_wp2_with fail
  refine (HC1.out V64 AN66.out).mono ?_
  rintro e V69 ⟨g72, rfl, ho71, h70⟩
  have AN73 := Lib.hid (AN66.out.trans (h70.mono AN66.out.size))
  clear AN66
  have OW74 := Lib.hid (own_.own_below OW67.out h70)
  clear OW67
  have OW75 := Lib.hid (own_.own_below OW68.out h70)
  clear OW68
  have rd76 := Lib.hid (intc.rd_of_own ho71 HL1.out)
  clear h70 ho71
  have E77 := Lib.hid (ints.eq_same z1 _ _ n1 n1 n1 V69 (by omega) (intc.rd_of_own OW75.out HL1.out) rd76.out)
  clear rd76
  go_wp2_with fail
  refine E77.out.mono ?_
  rintro e wx ⟨rfl, j78, rfl⟩
  clear E77
  have AN80 := Lib.hid (aid.below_drewN AN73.out j78)
  clear AN73
  have OW81 := Lib.hid (own_.own_drewN OW74.out j78)
  clear OW74
  have OW82 := Lib.hid (own_.own_drewN OW75.out j78)
  clear OW75
  generalize V69.drewN j78 = V79 at *
  go_wp2_with fail
  go_ret
  exact ⟨rfl, AN80.out⟩

set_option maxRecDepth 100000 in
theorem walk (a0 : Option Addr) (n0 c0 : Nat) (z0 : List Int) (a1 : Option Addr) (n1 c1 : Nat) (z1 : List Int) (a2 : Int) (w : World) (w0 : RdZ 2 w w.heap.size a0 n0 z0) (l0 : n0 ≤ maxLen) (w1 : IsRow .i64 w a1 n1 c1 z1) (w2 : (Lit.int .i64 a2).wf = true) :
    Calls Try.prog 9 #[.slice a0 n0 c0, .slice a1 n1 c1, .int .i64 a2] w fun e w' => e = .returned (.bool true) ∧ Below w.heap.size w w' := by
  by_cases hn1 : (1048576 : Int) < (n1 : Int)
  · clear w0 l0 w1 w2
    go_enter Try.func9, Try.ntmps9
    go_wp2_with fail
    go_ret
    exact ⟨rfl, Below.refl _ _⟩
  obtain ⟨q1, -, -⟩ := intc.rd_of_row w1
  by_cases hn0 : n0 ≤ 1048576
  · skip
    have hn1 : n1 ≤ 1048576 := by omega
    exact law_of a0 c0 a1 c1 z0 n0 (z1.take n1) n1 a2 (loc.hfV z0 n0 (z1.take n1) n1 a2) (loc.hfB z0 n0 (z1.take n1) n1 a2) w hn0 w0 hn1 q1
      (fun A0 c0 A1 c1 w hc0 hc1 h0 h1 => loch.helpfulS z0 (z1.take n1) a2 A0 A1 n0 c0 n1 c1 w hc0 hc1 hn0 hn1 h0 h1)
      (fun A0 c0 A1 c1 w hc0 hc1 h0 h1 => loch.helpfulI z0 (z1.take n1) a2 A0 A1 n0 c0 n1 c1 w hc0 hc1 hn0 hn1 h0 h1)
  · have HZ0 := Lib.hid (site.sz a0 n0 c0 w l0)
    rw [if_neg hn0] at HZ0
    clear w0 l0 w1 w2 q1 hn0
    go_enter Try.func9, Try.ntmps9
    go_wp2_with fail
    refine (HZ0.out).mono ?_
    rintro e w' ⟨rfl, rfl⟩
    go_wp2_with fail
    go_ret
    exact ⟨rfl, Below.refl _ _⟩


theorem own : ownKnob Try.prog.godebug = none := by kernel_rfl
theorem laidOut : laidOutB Try.prog = true := by kernel_rfl

set_option maxRecDepth 100000 in
theorem lifted (os : Os) (started : os.Started) (H : Type) (enc : TypeId × Value → H) :
    ReturnsInHanded {} Try.checked os 9 .any (Rows.fnExactHelpfulSiteSpec.pre6 enc Try.prog Try.f9 Rows.fnExactHelpfulSiteRow.domain false) (Rows.fnExactHelpfulSiteSpec.post enc Try.prog Try.f9 false true false false) := by
  refine returnsInHanded_of_change (C := Try.checked) own started (by kernel_rfl) Try.func9
    (ChangeSpec.witness6 (enc := enc) (C := Try.checked) false ⟨#[], #[.slice none 0 0, .slice none 0 0, .int .i64 0], []⟩ 8 (by kernel_rfl) (by kernel_rfl) (by kernel_rfl) (by kernel_rfl)) ?_
  intro W base args ds gs before hval0 hW hcnd _
  have hval : ∀ (j : Nat) t v, Try.f9.params[j]? = some t → args[j]? = some v → Value.okWide Try.prog W .any base t v := hval0
  have hW' := hW
  obtain ⟨p, q, hA0, hV, rfl, hfz, hnd⟩ := hW
  have hA : DataW.TrodAll enc Try.prog W 0 (fun _ => true) true Try.f9.params.toList args.toList ds p := hA0
  rw [Try.params9] at hA hval
  obtain ⟨v0, vs0, d0, ds0, p0, q0, hargs, rfl, rfl, h0, r0⟩ := trodAll_cons hA
  obtain ⟨v1, vs1, d1, ds1, p1, q1, rfl, rfl, rfl, h1, r1⟩ := trodAll_cons r0
  obtain ⟨v2, vs2, d2, ds2, p2, q2, rfl, rfl, rfl, h2, r2⟩ := trodAll_cons r1
  obtain ⟨rfl, rfl, rfl⟩ := trodAll_nil r2
  obtain rfl : args = #[v0, v1, v2] := by cases args; simp_all
  obtain ⟨rfl, rfl⟩ := trodVars_none hV
  obtain ⟨a0, len0, cap0, rfl⟩ := okWide_slice Try.underlying22 (hval 0 22 v0 rfl rfl)
  have k0 := h0
  have lt0 : ∀ x ∈ p0, x.block < W.heap.size := by obtain ⟨m, hm⟩ := k0; exact DataW.trod_lt m _ _ _ hm
  obtain ⟨z0, w0, n0⟩ : ∃ zs, lst.RdZ 2 W W.heap.size a0 len0 zs ∧ len0 ≤ maxLen := by
    obtain ⟨fuel, hf⟩ := h0
    obtain ⟨A, n, c, zs, hcs, hrd, hle⟩ := lsto.open_structs Try.underlying22 Try.underlying25 (by kernel_rfl) (by kernel_rfl) (by decide) (by
        intro j f hg
        match j, hg with
        | 0, hg => exact (Option.some.inj hg) ▸ Try.underlying3
        | 1, hg => exact (Option.some.inj hg) ▸ Try.underlying3
        | q + 2, hg => exact absurd (Array.getElem?_eq_some_iff.1 hg).1 (by simp)) hf
    simp [Value.cells] at hcs
    obtain ⟨rfl, rfl, rfl⟩ := hcs
    exact ⟨zs, hrd, hle⟩
  obtain ⟨a1, len1, cap1, rfl⟩ := okWide_slice Try.underlying23 (hval 1 23 v1 rfl rfl)
  have k1 := h1
  have lt1 : ∀ x ∈ p1, x.block < W.heap.size := by obtain ⟨m, hm⟩ := k1; exact DataW.trod_lt m _ _ _ hm
  obtain ⟨z1, w1⟩ : ∃ zs, IsRow .i64 W a1 len1 cap1 zs := by
    obtain ⟨fuel, hf⟩ := h1
    rcases open_ints Try.underlying23 Try.underlying3 (by kernel_rfl) hf with ⟨hcs, _⟩ | ⟨x, l, c, zs, hcs, _, hl, hm, hz, _, hcell, hwz⟩
    · simp [Value.cells] at hcs
      obtain ⟨rfl, rfl, rfl⟩ := hcs
      exact ⟨[], .inl ⟨rfl, rfl, rfl, rfl⟩⟩
    · simp [Value.cells] at hcs
      obtain ⟨rfl, rfl, rfl⟩ := hcs
      exact ⟨zs, .inr ⟨_, rfl, hl, hm, by simpa using hz, hcell, hwz⟩⟩
  obtain ⟨a2, rfl, rfl, rfl, w2⟩ := open_int Try.underlying3 (hval 2 3 v2 rfl rfl) h2
  clear hA0 hval0
  refine (walk a0 len0 cap0 z0 a1 len1 cap1 z1 a2 W w0 n0 w1 w2).mono fun e W' ⟨he, bel⟩ => ?_
  subst he
  exact ⟨_, rfl, _, _, _, [], _, [], hW', trodAll_mk1 (shut_bool Try.underlying4 _), (trodAll_cons_mk (Below.trod laidOut (by kernel_rfl) (of_decide_eq_true (by kernel_rfl)) k0 bel lt0) (trodAll_cons_mk (Below.trod laidOut (by kernel_rfl) (of_decide_eq_true (by kernel_rfl)) k1 bel lt1) (trodAll_cons_mk (shut_int Try.underlying3 w2) trodAll_mk0))), rfl, bel.frame _, fun h => by cases h⟩

theorem over : Rows.fnExactHelpfulSiteRow.holds Try.pinned (OpenSpec.ofChange Rows.fnExactHelpfulSiteSpec) :=
  OpenClaim.holds_of_wide 9 Try.f9 rfl rfl rfl rfl rfl rfl rfl ⟨rfl, rfl, rfl, rfl, rfl⟩ rfl rfl rfl rfl rfl (by kernel_rfl) Try.func9 (by kernel_rfl)
    (of_decide_eq_true (by kernel_rfl)) (by unfold Func.isWrapper; first | (rw [if_pos (by decide +kernel)]; kernel_rfl) | (rw [if_neg (by decide +kernel)]; exact ⟨rfl, rfl⟩))
    (fun os started H enc _ => lifted os started H enc)

theorem proved : Rows.FnExactHelpfulSiteSaid :=
  over
#print axioms proved
end Go.Proofs.Ytpbopiecfnedgab.fnExactHelpfulSite
