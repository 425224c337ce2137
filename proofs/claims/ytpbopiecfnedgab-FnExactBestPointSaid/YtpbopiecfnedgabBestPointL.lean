/- For every slice of sites and every slice of ints the law FnExactBestPoint returns true: impl.BestPoint and spec.BestPoint return the same first one of the points with the smallest spread, the same spread and true, or both the zero point, 0 and false; the arguments are left as they were. No condition. -/
import Derived.Test.YtpbopiecfnedgabRows
import Derived.Test.YtpbopiecfnedgabLocB
import Derived.Test.YtpbopiecfnedgabIntC
import Derived.Test.YtpbopiecfnedgabLstO
import Derived.Test.YtpbopiecfnedgabSitE
import Derived.WalkKit
import Derived.ProofKit
import Derived.OpenShut
import Derived.ShutString
import Derived.ChangeOld
import Derived.Below
import Derived.Lib.SmallJoins
import Derived.Lib.QuietBelow
import Derived.Deep.RegionHeld3
import Derived.Deep.CutRange
namespace Go.Proofs.Ytpbopiecfnedgab.fnExactBestPoint
open Go.ChangeShapes Go.WideShapes Go.ChangeAt Go.RowKit Go.Joins Go.Proofs.Ytpbopiecfnedgab.ats Go.Proofs.Ytpbopiecfnedgab.ints Go.Proofs.Ytpbopiecfnedgab.lst Go.Proofs.Ytpbopiecfnedgab.intc Go.Proofs.Ytpbopiecfnedgab.code_
open Go.ChangeMaps (open_string shut_string)
set_option linter.unusedVariables false

theorem bool_ne_self (b : Bool) : (b != b) = false := by simp
theorem int_ne_self (x : Int) : (x != x) = false := by simp

/-- The function f returns this. -/
def Gives (f : Nat) (z0 : List Int) (n0 : Nat) (z1 : List Int) (n1 : Nat) (O00 : Int) (O01 : Int) (O1 : Int) (O2 : Bool) : Prop := ∀ (A0 : Option Addr) (c0 : Nat) (A1 : Option Addr) (c1 : Nat) (w : World), n0 ≤ c0 → n1 ≤ c1 → RdZ 2 w w.heap.size A0 n0 z0 → RdI w w.heap.size A1 n1 z1 → 
  Calls Try.prog f #[.slice A0 n0 c0, .slice A1 n1 c1] w fun e w' => e = .returned (.tuple #[.agg #[.int .i64 O00, .int .i64 O01], .int .i64 O1, .bool O2]) ∧ Below w.heap.size w w'

set_option maxRecDepth 100000 in
set_option maxHeartbeats 8000000 in
theorem law_of (a0 : Option Addr) (c0 : Nat) (a1 : Option Addr) (c1 : Nat) (z0 : List Int) (n0 : Nat) (z1 : List Int) (n1 : Nat) (O00 : Int) (O01 : Int) (O1 : Int) (O2 : Bool) (w : World) (hn0 : n0 ≤ 1048576) (hr0 : RdZ 2 w w.heap.size a0 n0 z0) (hn1 : n1 ≤ 1048576) (hr1 : RdI w w.heap.size a1 n1 z1)
    (hs : Gives 27 z0 n0 z1 n1 O00 O01 O1 O2) (hi : Gives 28 z0 n0 z1 n1 O00 O01 O1 O2) :
    Calls Try.prog 5 #[.slice a0 n0 c0, .slice a1 n1 c1] w fun e w' => e = .returned (.bool true) ∧ Below w.heap.size w w' := by
  have HZ0 := Lib.hid (fun w => site.sz a0 n0 c0 w (by unfold maxLen; omega))
  rw [if_pos hn0] at HZ0
  have d0 : decide ((1048576 : Int) - (n0 : Int) < 0) = false := decide_eq_false (by omega)
  have HC0 := Lib.hid (fun (w' : World) (hb : Below w.heap.size w w') => site.copyS z0 a0 n0 c0 w' hn0 (hr0.next hb))
  have HL0 := Lib.hid hr0.1
  have d1 : ¬ (1048576 : Int) < (n1 : Int) := by omega
  have HC1 := Lib.hid (fun (w' : World) (hb : Below w.heap.size w w') => intc.copyI z1 a1 n1 c1 w' hn1 (hr1.next hb))
  have HL1 := Lib.hid hr1.1
  have HS := Lib.hid (fun (A0 : Option Addr) (c0 : Nat) (A1 : Option Addr) (c1 : Nat) (w : World) (e0 : n0 ≤ c0) (e1 : n1 ≤ c1) (h0 : RdZ 2 w w.heap.size A0 n0 z0) (h1 : RdI w w.heap.size A1 n1 z1) => hs A0 c0 A1 c1 w e0 e1 h0 h1)
  have HI := Lib.hid (fun (A0 : Option Addr) (c0 : Nat) (A1 : Option Addr) (c1 : Nat) (w : World) (e0 : n0 ≤ c0) (e1 : n1 ≤ c1) (h0 : RdZ 2 w w.heap.size A0 n0 z0) (h1 : RdI w w.heap.size A1 n1 z1) => hi A0 c0 A1 c1 w e0 e1 h0 h1)
  have ne0 := int_ne_self O1
  have ne1 := bool_ne_self O2
  clear hs hi hr0 hr1
  go_enter Try.func5, Try.ntmps5
  go_wp2_with fail
  refine (HZ0.out w).mono ?_
  rintro e w' ⟨rfl, rfl⟩
  have AN1 := Lib.hid (Below.refl w.heap.size w)
  go_wp2_with fail
  refine (HC0.out w AN1.out).mono ?_
  rintro e V2 ⟨g5, rfl, ho4, h3⟩
  have AN6 := Lib.hid (AN1.out.trans (h3.mono AN1.out.size))
  clear AN1
  have rd7 := Lib.hid (RdZ.of_own ho4 HL0.out)
  clear h3 ho4
  go_wp2_with fail
  refine (HC1.out V2 AN6.out).mono ?_
  rintro e V8 ⟨g11, rfl, ho10, h9⟩
  have AN12 := Lib.hid (AN6.out.trans (h9.mono AN6.out.size))
  clear AN6
  have rd13 := Lib.hid (rd7.out.next h9)
  clear rd7
  have rd14 := Lib.hid (intc.rd_of_own ho10 HL1.out)
  clear h9 ho10
  go_wp2_with fail
  refine (HS.out _ _ _ _ V8 (Nat.le_refl _) (Nat.le_refl _) rd13.out rd14.out).mono ?_
  rintro e V15 ⟨rfl, h16⟩
  clear rd13 rd14
  have AN18 := Lib.hid (AN12.out.trans (h16.mono AN12.out.size))
  clear AN12
  clear h16
  have RB0 := Lib.hid (newS 32 #[.int .i64 O00, .int .i64 O01] V15)
  go_wp2_with fail
  generalize (V15.alloc (.cells #[.int .i64 O00, .int .i64 O01] 32)) = V19 at *
  have AN20 := Lib.hid (AN18.out.trans (RB0.out.1.mono AN18.out.size))
  clear AN18
  have AN21 := Lib.hid (Below.refl V19.heap.size V19)
  refine (HC0.out V19 AN20.out).mono ?_
  rintro e V22 ⟨g25, rfl, ho24, h23⟩
  have LE26 := Lib.hid AN20.out.size
  have LE27 := Lib.hid AN21.out.size
  have AN28 := Lib.hid (AN20.out.trans (h23.mono AN20.out.size))
  clear AN20
  have AN29 := Lib.hid (AN21.out.trans (h23.mono AN21.out.size))
  clear AN21
  have rd30 := Lib.hid (RdZ.of_own ho24 HL0.out)
  have OW31 := Lib.hid ho24
  have LT32 := Lib.hid (own_row_lt ho24)
  have AN33 := Lib.hid (Below.refl V22.heap.size V22)
  clear h23 ho24
  go_wp2_with fail
  refine (HC1.out V22 AN28.out).mono ?_
  rintro e V34 ⟨g37, rfl, ho36, h35⟩
  have LE38 := Lib.hid AN28.out.size
  have LE39 := Lib.hid AN29.out.size
  have LE40 := Lib.hid AN33.out.size
  have AN41 := Lib.hid (AN28.out.trans (h35.mono AN28.out.size))
  clear AN28
  have AN42 := Lib.hid (AN29.out.trans (h35.mono AN29.out.size))
  clear AN29
  have AN43 := Lib.hid (AN33.out.trans (h35.mono AN33.out.size))
  clear AN33
  have OW44 := Lib.hid (own_.own_below OW31.out h35)
  clear OW31
  have rd45 := Lib.hid (intc.rd_of_own ho36 HL1.out)
  have OW46 := Lib.hid ho36
  have LT47 := Lib.hid (own_row_lt ho36)
  have AN48 := Lib.hid (Below.refl V34.heap.size V34)
  clear h35 ho36
  have rd49 := Lib.hid (RdZ.of_own OW44.out HL0.out)
  have rd50 := Lib.hid (intc.rd_of_own OW46.out HL1.out)
  have LE51 := Lib.hid AN41.out.size
  have LE52 := Lib.hid AN42.out.size
  have LE53 := Lib.hid AN43.out.size
  have LE54 := Lib.hid AN48.out.size
  go_wp2_with fail
  refine (HI.out _ _ _ _ V34 (Nat.le_refl _) (Nat.le_refl _) rd49.out rd50.out).mono ?_
  rintro e V55 ⟨rfl, h56⟩
  clear rd49 rd50
  have AN58 := Lib.hid (AN41.out.trans (h56.mono AN41.out.size))
  clear AN41
  have AN59 := Lib.hid (AN42.out.trans (h56.mono AN42.out.size))
  clear AN42
  have AN60 := Lib.hid (AN43.out.trans (h56.mono AN43.out.size))
  clear AN43
  have AN61 := Lib.hid (AN48.out.trans (h56.mono AN48.out.size))
  clear AN48
  have OW62 := Lib.hid (own_.own_below OW44.out h56)
  clear OW44
  have OW63 := Lib.hid (own_.own_below OW46.out h56)
  clear OW46
  clear h56
  clear AN60
  clear AN61
  have RG0 := Lib.hid (newS 32 #[.int .i64 O00, .int .i64 O01] V55)
  have S65 := Lib.hid (RB0.out.old (AN59.out.trans (RG0.out.1.mono AN59.out.size)))
  have c66 : (V55.alloc (.cells #[.int .i64 O00, .int .i64 O01] 32)).cell? ⟨V15.heap.size, 0, none⟩ = some (.int .i64 O00) := S65.out.cell 0
  have c67 : (V55.alloc (.cells #[.int .i64 O00, .int .i64 O01] 32)).cell? ⟨V15.heap.size, 1, none⟩ = some (.int .i64 O01) := S65.out.cell 1
  go_wp2_with fail
  clear c66 c67 S65
  generalize (V55.alloc (.cells #[.int .i64 O00, .int .i64 O01] 32)) = V64 at *
  have AN68 := Lib.hid (AN58.out.trans (RG0.out.1.mono AN58.out.size))
  clear AN58
  have AN69 := Lib.hid (AN59.out.trans (RG0.out.1.mono AN59.out.size))
  clear AN59
  have OW70 := Lib.hid (own_.own_below OW62.out RG0.out.1)
  clear OW62
  have OW71 := Lib.hid (own_.own_below OW63.out RG0.out.1)
  clear OW63
  have AN72 := Lib.hid (Below.refl V64.heap.size V64)
  refine (site.eqSite O00 O01 V64).mono ?_
  rintro e V73 ⟨rfl, h74⟩
  have AN75 := Lib.hid (AN68.out.trans (h74.mono AN68.out.size))
  clear AN68
  have AN76 := Lib.hid (AN69.out.trans (h74.mono AN69.out.size))
  clear AN69
  have AN77 := Lib.hid (AN72.out.trans (h74.mono AN72.out.size))
  clear AN72
  have OW78 := Lib.hid (own_.own_below OW70.out h74)
  clear OW70
  have OW79 := Lib.hid (own_.own_below OW71.out h74)
  clear OW71
  clear h74
  go_wp2_with fail
  refine (HC0.out V73 AN75.out).mono ?_
  rintro e V80 ⟨g83, rfl, ho82, h81⟩
  have AN84 := Lib.hid (AN75.out.trans (h81.mono AN75.out.size))
  clear AN75
  have OW85 := Lib.hid (own_.own_below OW78.out h81)
  clear OW78
  have OW86 := Lib.hid (own_.own_below OW79.out h81)
  clear OW79
  have rd87 := Lib.hid (RdZ.of_own ho82 HL0.out)
  clear h81 ho82
  have E88 := Lib.hid (site.eqS z0 _ _ n0 n0 n0 V80 (by omega) (RdZ.of_own OW85.out HL0.out) rd87.out)
  clear rd87
  go_wp2_with fail
  refine E88.out.mono ?_
  rintro e V89 ⟨rfl, h90⟩
  clear E88
  have AN91 := Lib.hid (AN84.out.trans (h90.mono AN84.out.size))
  clear AN84
  have OW92 := Lib.hid (own_.own_below OW85.out h90)
  clear OW85
  have OW93 := Lib.hid (own_.own_below OW86.out h90)
  clear OW86
  clear h90
  go_wp2_with fail
  refine (HC1.out V89 AN91.out).mono ?_
  rintro e V94 ⟨g97, rfl, ho96, h95⟩
  have AN98 := Lib.hid (AN91.out.trans (h95.mono AN91.out.size))
  clear AN91
  have OW99 := Lib.hid (own_.own_below OW92.out h95)
  clear OW92
  have OW100 := Lib.hid (own_.own_below OW93.out h95)
  clear OW93
  have rd101 := Lib.hid (intc.rd_of_own ho96 HL1.out)
  clear h95 ho96
  have E102 := Lib.hid (ints.eq_same z1 _ _ n1 n1 n1 V94 (by omega) (intc.rd_of_own OW100.out HL1.out) rd101.out)
  clear rd101
  go_wp2_with fail
  refine E102.out.mono ?_
  rintro e wx ⟨rfl, j103, rfl⟩
  clear E102
  have AN105 := Lib.hid (aid.below_drewN AN98.out j103)
  clear AN98
  have OW106 := Lib.hid (own_.own_drewN OW99.out j103)
  clear OW99
  have OW107 := Lib.hid (own_.own_drewN OW100.out j103)
  clear OW100
  generalize V94.drewN j103 = V104 at *
  go_wp2_with fail
  go_ret
  exact ⟨rfl, AN105.out⟩

set_option maxRecDepth 100000 in
theorem walk (a0 : Option Addr) (n0 c0 : Nat) (z0 : List Int) (a1 : Option Addr) (n1 c1 : Nat) (z1 : List Int) (w : World) (w0 : RdZ 2 w w.heap.size a0 n0 z0) (l0 : n0 ≤ maxLen) (w1 : IsRow .i64 w a1 n1 c1 z1) :
    Calls Try.prog 5 #[.slice a0 n0 c0, .slice a1 n1 c1] w fun e w' => e = .returned (.bool true) ∧ Below w.heap.size w w' := by
  by_cases hn1 : (1048576 : Int) < (n1 : Int)
  · clear w0 l0 w1
    go_enter Try.func5, Try.ntmps5
    go_wp2_with fail
    go_ret
    exact ⟨rfl, Below.refl _ _⟩
  obtain ⟨q1, -, -⟩ := intc.rd_of_row w1
  by_cases hn0 : n0 ≤ 1048576
  · skip
    have hn1 : n1 ≤ 1048576 := by omega
    exact law_of a0 c0 a1 c1 z0 n0 (z1.take n1) n1 (loc.bpX z0 n0 (z1.take n1) n1) (loc.bpY z0 n0 (z1.take n1) n1) (loc.bpS z0 n0 (z1.take n1) n1) (sit.arB z0 n0 (z1.take n1) n1) w hn0 w0 hn1 q1
      (fun A0 c0 A1 c1 w hc0 hc1 h0 h1 => locb.bestS z0 (z1.take n1) A0 A1 n0 c0 n1 c1 w hn0 hn1 h0 h1)
      (fun A0 c0 A1 c1 w hc0 hc1 h0 h1 => locb.bestI z0 (z1.take n1) A0 A1 n0 c0 n1 c1 w hc0 hn0 hn1 h0 h1)
  · have HZ0 := Lib.hid (site.sz a0 n0 c0 w l0)
    rw [if_neg hn0] at HZ0
    clear w0 l0 w1 q1 hn0
    go_enter Try.func5, Try.ntmps5
    go_wp2_with fail
    refine (HZ0.out).mono ?_
    rintro e w' ⟨rfl, rfl⟩
    go_wp2_with fail
    go_ret
    exact ⟨rfl, Below.refl _ _⟩


theorem own : ownKnob Try.prog.godebug = none := by kernel_rfl
theorem laidOut : laidOutB Try.prog = true := by kernel_rfl

set_option maxRecDepth 100000 in
theorem lifted (os : Os) (started : os.Started) (H : Type) (enc : TypeId × Value → H) :
    ReturnsInHanded {} Try.checked os 5 .any (Rows.fnExactBestPointSpec.pre6 enc Try.prog Try.f5 Rows.fnExactBestPointRow.domain false) (Rows.fnExactBestPointSpec.post enc Try.prog Try.f5 false true false false) := by
  refine returnsInHanded_of_change (C := Try.checked) own started (by kernel_rfl) Try.func5
    (ChangeSpec.witness6 (enc := enc) (C := Try.checked) false ⟨#[], #[.slice none 0 0, .slice none 0 0], []⟩ 8 (by kernel_rfl) (by kernel_rfl) (by kernel_rfl) (by kernel_rfl)) ?_
  intro W base args ds gs before hval0 hW hcnd _
  have hval : ∀ (j : Nat) t v, Try.f5.params[j]? = some t → args[j]? = some v → Value.okWide Try.prog W .any base t v := hval0
  have hW' := hW
  obtain ⟨p, q, hA0, hV, rfl, hfz, hnd⟩ := hW
  have hA : DataW.TrodAll enc Try.prog W 0 (fun _ => true) true Try.f5.params.toList args.toList ds p := hA0
  rw [Try.params5] at hA hval
  obtain ⟨v0, vs0, d0, ds0, p0, q0, hargs, rfl, rfl, h0, r0⟩ := trodAll_cons hA
  obtain ⟨v1, vs1, d1, ds1, p1, q1, rfl, rfl, rfl, h1, r1⟩ := trodAll_cons r0
  obtain ⟨rfl, rfl, rfl⟩ := trodAll_nil r1
  obtain rfl : args = #[v0, v1] := by cases args; simp_all
  obtain ⟨rfl, rfl⟩ := trodVars_none hV
  obtain ⟨a0, len0, cap0, rfl⟩ := okWide_slice Try.underlying22 (hval 0 22 v0 rfl rfl)
  have k0 := h0
  have lt0 : ∀ x ∈ p0, x.block < W.heap.size := by obtain ⟨m, hm⟩ := k0; exact DataW.trod_lt m _ _ _ hm
  obtain ⟨z0, w0, n0⟩ : ∃ zs, lst.RdZ 2 W W.heap.size a0 len0 zs ∧ len0 ≤ maxLen := by
    obtain ⟨fuel, hf⟩ := h0
    obtain ⟨A, n, c, zs, hcs, hrd, hle⟩ := lsto.open_structs Try.underlying22 Try.underlying25 (by kernel_rfl) (by kernel_rfl) (by decide) (by
        intro j f hg
        match j, hg with
        | 0, hg => exact (Option.some.inj hg) ▸ Try.underlying3
        | 1, hg => exact (Option.some.inj hg) ▸ Try.underlying3
        | q + 2, hg => exact absurd (Array.getElem?_eq_some_iff.1 hg).1 (by simp)) hf
    simp [Value.cells] at hcs
    obtain ⟨rfl, rfl, rfl⟩ := hcs
    exact ⟨zs, hrd, hle⟩
  obtain ⟨a1, len1, cap1, rfl⟩ := okWide_slice Try.underlying23 (hval 1 23 v1 rfl rfl)
  have k1 := h1
  have lt1 : ∀ x ∈ p1, x.block < W.heap.size := by obtain ⟨m, hm⟩ := k1; exact DataW.trod_lt m _ _ _ hm
  obtain ⟨z1, w1⟩ : ∃ zs, IsRow .i64 W a1 len1 cap1 zs := by
    obtain ⟨fuel, hf⟩ := h1
    rcases open_ints Try.underlying23 Try.underlying3 (by kernel_rfl) hf with ⟨hcs, _⟩ | ⟨x, l, c, zs, hcs, _, hl, hm, hz, _, hcell, hwz⟩
    · simp [Value.cells] at hcs
      obtain ⟨rfl, rfl, rfl⟩ := hcs
      exact ⟨[], .inl ⟨rfl, rfl, rfl, rfl⟩⟩
    · simp [Value.cells] at hcs
      obtain ⟨rfl, rfl, rfl⟩ := hcs
      exact ⟨zs, .inr ⟨_, rfl, hl, hm, by simpa using hz, hcell, hwz⟩⟩
  clear hA0 hval0
  refine (walk a0 len0 cap0 z0 a1 len1 cap1 z1 W w0 n0 w1).mono fun e W' ⟨he, bel⟩ => ?_
  subst he
  exact ⟨_, rfl, _, _, _, [], _, [], hW', trodAll_mk1 (shut_bool Try.underlying4 _), (trodAll_cons_mk (Below.trod laidOut (by kernel_rfl) (of_decide_eq_true (by kernel_rfl)) k0 bel lt0) (trodAll_cons_mk (Below.trod laidOut (by kernel_rfl) (of_decide_eq_true (by kernel_rfl)) k1 bel lt1) trodAll_mk0)), rfl, bel.frame _, fun h => by cases h⟩

theorem over : Rows.fnExactBestPointRow.holds Try.pinned (OpenSpec.ofChange Rows.fnExactBestPointSpec) :=
  OpenClaim.holds_of_wide 5 Try.f5 rfl rfl rfl rfl rfl rfl rfl ⟨rfl, rfl, rfl, rfl, rfl⟩ rfl rfl rfl rfl rfl (by kernel_rfl) Try.func5 (by kernel_rfl)
    (of_decide_eq_true (by kernel_rfl)) (by unfold Func.isWrapper; first | (rw [if_pos (by decide +kernel)]; kernel_rfl) | (rw [if_neg (by decide +kernel)]; exact ⟨rfl, rfl⟩))
    (fun os started H enc _ => lifted os started H enc)

theorem proved : Rows.FnExactBestPointSaid :=
  over
#print axioms proved
end Go.Proofs.Ytpbopiecfnedgab.fnExactBestPoint
