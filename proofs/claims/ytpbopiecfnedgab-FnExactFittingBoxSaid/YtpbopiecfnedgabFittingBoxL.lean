/- For every slice of sites, every slice of ints and every int the law FnExactFittingBox returns true: impl.FittingBox and spec.FittingBox return the same two corners and true, or both zero points and false; the arguments are left as they were. No condition. -/
import Derived.Test.YtpbopiecfnedgabRows
import Derived.Test.YtpbopiecfnedgabLocX
import Derived.Test.YtpbopiecfnedgabIntC
import Derived.Test.YtpbopiecfnedgabLstO
import Derived.Test.YtpbopiecfnedgabSitE
import Derived.WalkKit
import Derived.ProofKit
import Derived.OpenShut
import Derived.ShutString
import Derived.ChangeOld
import Derived.Below
import Derived.Lib.SmallJoins
import Derived.Lib.QuietBelow
import Derived.Deep.RegionHeld3
import Derived.Deep.CutRange
namespace Go.Proofs.Ytpbopiecfnedgab.fnExactFittingBox
open Go.ChangeShapes Go.WideShapes Go.ChangeAt Go.RowKit Go.Joins Go.Proofs.Ytpbopiecfnedgab.ats Go.Proofs.Ytpbopiecfnedgab.ints Go.Proofs.Ytpbopiecfnedgab.lst Go.Proofs.Ytpbopiecfnedgab.intc Go.Proofs.Ytpbopiecfnedgab.code_
open Go.ChangeMaps (open_string shut_string)
set_option linter.unusedVariables false

theorem bool_ne_self (b : Bool) : (b != b) = false := by simp
theorem int_ne_self (x : Int) : (x != x) = false := by simp

/-- The function f returns this. -/
def Gives (f : Nat) (z0 : List Int) (n0 : Nat) (z1 : List Int) (n1 : Nat) (a2 : Int) (O00 : Int) (O01 : Int) (O10 : Int) (O11 : Int) (O2 : Bool) : Prop := ∀ (A0 : Option Addr) (c0 : Nat) (A1 : Option Addr) (c1 : Nat) (w : World), n0 ≤ c0 → n1 ≤ c1 → RdZ 2 w w.heap.size A0 n0 z0 → RdI w w.heap.size A1 n1 z1 → 
  Calls Try.prog f #[.slice A0 n0 c0, .slice A1 n1 c1, .int .i64 a2] w fun e w' => e = .returned (.tuple #[.agg #[.int .i64 O00, .int .i64 O01], .agg #[.int .i64 O10, .int .i64 O11], .bool O2]) ∧ Below w.heap.size w w'

set_option maxRecDepth 100000 in
set_option maxHeartbeats 8000000 in
theorem law_of (a0 : Option Addr) (c0 : Nat) (a1 : Option Addr) (c1 : Nat) (z0 : List Int) (n0 : Nat) (z1 : List Int) (n1 : Nat) (a2 : Int) (O00 : Int) (O01 : Int) (O10 : Int) (O11 : Int) (O2 : Bool) (w : World) (hn0 : n0 ≤ 1048576) (hr0 : RdZ 2 w w.heap.size a0 n0 z0) (hn1 : n1 ≤ 1048576) (hr1 : RdI w w.heap.size a1 n1 z1)
    (hs : Gives 32 z0 n0 z1 n1 a2 O00 O01 O10 O11 O2) (hi : Gives 33 z0 n0 z1 n1 a2 O00 O01 O10 O11 O2) :
    Calls Try.prog 7 #[.slice a0 n0 c0, .slice a1 n1 c1, .int .i64 a2] w fun e w' => e = .returned (.bool true) ∧ Below w.heap.size w w' := by
  have HZ0 := Lib.hid (fun w => site.sz a0 n0 c0 w (by unfold maxLen; omega))
  rw [if_pos hn0] at HZ0
  have d0 : decide ((1048576 : Int) - (n0 : Int) < 0) = false := decide_eq_false (by omega)
  have HC0 := Lib.hid (fun (w' : World) (hb : Below w.heap.size w w') => site.copyS z0 a0 n0 c0 w' hn0 (hr0.next hb))
  have HL0 := Lib.hid hr0.1
  have d1 : ¬ (1048576 : Int) < (n1 : Int) := by omega
  have HC1 := Lib.hid (fun (w' : World) (hb : Below w.heap.size w w') => intc.copyI z1 a1 n1 c1 w' hn1 (hr1.next hb))
  have HL1 := Lib.hid hr1.1
  have HS := Lib.hid (fun (A0 : Option Addr) (c0 : Nat) (A1 : Option Addr) (c1 : Nat) (w : World) (e0 : n0 ≤ c0) (e1 : n1 ≤ c1) (h0 : RdZ 2 w w.heap.size A0 n0 z0) (h1 : RdI w w.heap.size A1 n1 z1) => hs A0 c0 A1 c1 w e0 e1 h0 h1)
  have HI := Lib.hid (fun (A0 : Option Addr) (c0 : Nat) (A1 : Option Addr) (c1 : Nat) (w : World) (e0 : n0 ≤ c0) (e1 : n1 ≤ c1) (h0 : RdZ 2 w w.heap.size A0 n0 z0) (h1 : RdI w w.heap.size A1 n1 z1) => hi A0 c0 A1 c1 w e0 e1 h0 h1)
  have ne0 := bool_ne_self O2
  clear hs hi hr0 hr1
  go_enter Try.func7, Try.ntmps7
  go_wp2_with fail
  refine (HZ0.out w).mono ?_
  rintro e w' ⟨rfl, rfl⟩
  have AN1 := Lib.hid (Below.refl w.heap.size w)
  go_wp2_with fail
  refine (HC0.out w AN1.out).mono ?_
  rintro e V2 ⟨g5, rfl, ho4, h3⟩
  have AN6 := Lib.hid (AN1.out.trans (h3.mono AN1.out.size))
  clear AN1
  have rd7 := Lib.hid (RdZ.of_own ho4 HL0.out)
  clear h3 ho4
  go_wp2_with fail
  refine (HC1.out V2 AN6.out).mono ?_
  rintro e V8 ⟨g11, rfl, ho10, h9⟩
  have AN12 := Lib.hid (AN6.out.trans (h9.mono AN6.out.size))
  clear AN6
  have rd13 := Lib.hid (rd7.out.next h9)
  clear rd7
  have rd14 := Lib.hid (intc.rd_of_own ho10 HL1.out)
  clear h9 ho10
  go_wp2_with fail
  refine (HS.out _ _ _ _ V8 (Nat.le_refl _) (Nat.le_refl _) rd13.out rd14.out).mono ?_
  rintro e V15 ⟨rfl, h16⟩
  clear rd13 rd14
  have AN18 := Lib.hid (AN12.out.trans (h16.mono AN12.out.size))
  clear AN12
  clear h16
  have RB0 := Lib.hid ((newS 32 #[.int .i64 O00, .int .i64 O01] V15).alloc (.cells #[.int .i64 O10, .int .i64 O11] 32))
  have RB1 := Lib.hid ((newS 32 #[.int .i64 O00, .int .i64 O01] V15).next 32 #[.int .i64 O10, .int .i64 O11])
  rw [World.size_alloc] at RB1
  go_wp2_with fail
  generalize ((V15.alloc (.cells #[.int .i64 O00, .int .i64 O01] 32)).alloc (.cells #[.int .i64 O10, .int .i64 O11] 32)) = V19 at *
  have AN20 := Lib.hid (AN18.out.trans (RB0.out.1.mono AN18.out.size))
  clear AN18
  have AN21 := Lib.hid (Below.refl V19.heap.size V19)
  refine (HC0.out V19 AN20.out).mono ?_
  rintro e V22 ⟨g25, rfl, ho24, h23⟩
  have LE26 := Lib.hid AN20.out.size
  have LE27 := Lib.hid AN21.out.size
  have AN28 := Lib.hid (AN20.out.trans (h23.mono AN20.out.size))
  clear AN20
  have AN29 := Lib.hid (AN21.out.trans (h23.mono AN21.out.size))
  clear AN21
  have rd30 := Lib.hid (RdZ.of_own ho24 HL0.out)
  have OW31 := Lib.hid ho24
  have LT32 := Lib.hid (own_row_lt ho24)
  have AN33 := Lib.hid (Below.refl V22.heap.size V22)
  clear h23 ho24
  go_wp2_with fail
  refine (HC1.out V22 AN28.out).mono ?_
  rintro e V34 ⟨g37, rfl, ho36, h35⟩
  have LE38 := Lib.hid AN28.out.size
  have LE39 := Lib.hid AN29.out.size
  have LE40 := Lib.hid AN33.out.size
  have AN41 := Lib.hid (AN28.out.trans (h35.mono AN28.out.size))
  clear AN28
  have AN42 := Lib.hid (AN29.out.trans (h35.mono AN29.out.size))
  clear AN29
  have AN43 := Lib.hid (AN33.out.trans (h35.mono AN33.out.size))
  clear AN33
  have OW44 := Lib.hid (own_.own_below OW31.out h35)
  clear OW31
  have rd45 := Lib.hid (intc.rd_of_own ho36 HL1.out)
  have OW46 := Lib.hid ho36
  have LT47 := Lib.hid (own_row_lt ho36)
  have AN48 := Lib.hid (Below.refl V34.heap.size V34)
  clear h35 ho36
  have rd49 := Lib.hid (RdZ.of_own OW44.out HL0.out)
  have rd50 := Lib.hid (intc.rd_of_own OW46.out HL1.out)
  have LE51 := Lib.hid AN41.out.size
  have LE52 := Lib.hid AN42.out.size
  have LE53 := Lib.hid AN43.out.size
  have LE54 := Lib.hid AN48.out.size
  go_wp2_with fail
  refine (HI.out _ _ _ _ V34 (Nat.le_refl _) (Nat.le_refl _) rd49.out rd50.out).mono ?_
  rintro e V55 ⟨rfl, h56⟩
  clear rd49 rd50
  have AN58 := Lib.hid (AN41.out.trans (h56.mono AN41.out.size))
  clear AN41
  have AN59 := Lib.hid (AN42.out.trans (h56.mono AN42.out.size))
  clear AN42
  have AN60 := Lib.hid (AN43.out.trans (h56.mono AN43.out.size))
  clear AN43
  have AN61 := Lib.hid (AN48.out.trans (h56.mono AN48.out.size))
  clear AN48
  have OW62 := Lib.hid (own_.own_below OW44.out h56)
  clear OW44
  have OW63 := Lib.hid (own_.own_below OW46.out h56)
  clear OW46
  clear h56
  clear AN60
  clear AN61
  have RG0 := Lib.hid ((newS 32 #[.int .i64 O00, .int .i64 O01] V55).alloc (.cells #[.int .i64 O10, .int .i64 O11] 32))
  have RG1 := Lib.hid ((newS 32 #[.int .i64 O00, .int .i64 O01] V55).next 32 #[.int .i64 O10, .int .i64 O11])
  rw [World.size_alloc] at RG1
  have S65 := Lib.hid (RB0.out.old (AN59.out.trans (RG0.out.1.mono AN59.out.size)))
  have c66 : ((V55.alloc (.cells #[.int .i64 O00, .int .i64 O01] 32)).alloc (.cells #[.int .i64 O10, .int .i64 O11] 32)).cell? ⟨V15.heap.size, 0, none⟩ = some (.int .i64 O00) := S65.out.cell 0
  have c67 : ((V55.alloc (.cells #[.int .i64 O00, .int .i64 O01] 32)).alloc (.cells #[.int .i64 O10, .int .i64 O11] 32)).cell? ⟨V15.heap.size, 1, none⟩ = some (.int .i64 O01) := S65.out.cell 1
  go_wp2_with fail
  clear c66 c67 S65
  generalize ((V55.alloc (.cells #[.int .i64 O00, .int .i64 O01] 32)).alloc (.cells #[.int .i64 O10, .int .i64 O11] 32)) = V64 at *
  have AN68 := Lib.hid (AN58.out.trans (RG0.out.1.mono AN58.out.size))
  clear AN58
  have AN69 := Lib.hid (AN59.out.trans (RG0.out.1.mono AN59.out.size))
  clear AN59
  have OW70 := Lib.hid (own_.own_below OW62.out RG0.out.1)
  clear OW62
  have OW71 := Lib.hid (own_.own_below OW63.out RG0.out.1)
  clear OW63
  have AN72 := Lib.hid (Below.refl V64.heap.size V64)
  refine (site.eqSite O00 O01 V64).mono ?_
  rintro e V73 ⟨rfl, h74⟩
  have AN75 := Lib.hid (AN68.out.trans (h74.mono AN68.out.size))
  clear AN68
  have AN76 := Lib.hid (AN69.out.trans (h74.mono AN69.out.size))
  clear AN69
  have AN77 := Lib.hid (AN72.out.trans (h74.mono AN72.out.size))
  clear AN72
  have OW78 := Lib.hid (own_.own_below OW70.out h74)
  clear OW70
  have OW79 := Lib.hid (own_.own_below OW71.out h74)
  clear OW71
  clear h74
  have S80 := Lib.hid (RB1.out.old AN76.out)
  have S81 := Lib.hid (RG1.out.old AN77.out)
  have c82 : V73.cell? ⟨V15.heap.size + 1, 0, none⟩ = some (.int .i64 O10) := S80.out.cell 0
  have c83 : V73.cell? ⟨V55.heap.size + 1, 0, none⟩ = some (.int .i64 O10) := S81.out.cell 0
  have c84 : V73.cell? ⟨V15.heap.size + 1, 1, none⟩ = some (.int .i64 O11) := S80.out.cell 1
  have c85 : V73.cell? ⟨V55.heap.size + 1, 1, none⟩ = some (.int .i64 O11) := S81.out.cell 1
  go_wp2_with fail
  clear c82 c83 c84 c85 S80 S81
  refine (site.eqSite O10 O11 V73).mono ?_
  rintro e V86 ⟨rfl, h87⟩
  have AN88 := Lib.hid (AN75.out.trans (h87.mono AN75.out.size))
  clear AN75
  have AN89 := Lib.hid (AN76.out.trans (h87.mono AN76.out.size))
  clear AN76
  have AN90 := Lib.hid (AN77.out.trans (h87.mono AN77.out.size))
  clear AN77
  have OW91 := Lib.hid (own_.own_below OW78.out h87)
  clear OW78
  have OW92 := Lib.hid (own_.own_below OW79.out h87)
  clear OW79
  clear h87
  go_wp2_with fail
  refine (HC0.out V86 AN88.out).mono ?_
  rintro e V93 ⟨g96, rfl, ho95, h94⟩
  have AN97 := Lib.hid (AN88.out.trans (h94.mono AN88.out.size))
  clear AN88
  have OW98 := Lib.hid (own_.own_below OW91.out h94)
  clear OW91
  have OW99 := Lib.hid (own_.own_below OW92.out h94)
  clear OW92
  have rd100 := Lib.hid (RdZ.of_own ho95 HL0.out)
  clear h94 ho95
  have E101 := Lib.hid (site.eqS z0 _ _ n0 n0 n0 V93 (by omega) (RdZ.of_own OW98.out HL0.out) rd100.out)
  clear rd100
  go_wp2_with fail
  refine E101.out.mono ?_
  rintro e V102 ⟨rfl, h103⟩
  clear E101
  have AN104 := Lib.hid (AN97.out.trans (h103.mono AN97.out.size))
  clear AN97
  have OW105 := Lib.hid (own_.own_below OW98.out h103)
  clear OW98
  have OW106 := Lib.hid (own_.own_below OW99.out h103)
  clear OW99
  clear h103
  go_wp2_with fail
  refine (HC1.out V102 AN104.out).mono ?_
  rintro e V107 ⟨g110, rfl, ho109, h108⟩
  have AN111 := Lib.hid (AN104.out.trans (h108.mono AN104.out.size))
  clear AN104
  have OW112 := Lib.hid (own_.own_below OW105.out h108)
  clear OW105
  have OW113 := Lib.hid (own_.own_below OW106.out h108)
  clear OW106
  have rd114 := Lib.hid (intc.rd_of_own ho109 HL1.out)
  clear h108 ho109
  have E115 := Lib.hid (ints.eq_same z1 _ _ n1 n1 n1 V107 (by omega) (intc.rd_of_own OW113.out HL1.out) rd114.out)
  clear rd114
  go_wp2_with fail
  refine E115.out.mono ?_
  rintro e wx ⟨rfl, j116, rfl⟩
  clear E115
  have AN118 := Lib.hid (aid.below_drewN AN111.out j116)
  clear AN111
  have OW119 := Lib.hid (own_.own_drewN OW112.out j116)
  clear OW112
  have OW120 := Lib.hid (own_.own_drewN OW113.out j116)
  clear OW113
  generalize V107.drewN j116 = V117 at *
  go_wp2_with fail
  go_ret
  exact ⟨rfl, AN118.out⟩

set_option maxRecDepth 100000 in
theorem walk (a0 : Option Addr) (n0 c0 : Nat) (z0 : List Int) (a1 : Option Addr) (n1 c1 : Nat) (z1 : List Int) (a2 : Int) (w : World) (w0 : RdZ 2 w w.heap.size a0 n0 z0) (l0 : n0 ≤ maxLen) (w1 : IsRow .i64 w a1 n1 c1 z1) (w2 : (Lit.int .i64 a2).wf = true) :
    Calls Try.prog 7 #[.slice a0 n0 c0, .slice a1 n1 c1, .int .i64 a2] w fun e w' => e = .returned (.bool true) ∧ Below w.heap.size w w' := by
  by_cases hn1 : (1048576 : Int) < (n1 : Int)
  · clear w0 l0 w1 w2
    go_enter Try.func7, Try.ntmps7
    go_wp2_with fail
    go_ret
    exact ⟨rfl, Below.refl _ _⟩
  obtain ⟨q1, -, -⟩ := intc.rd_of_row w1
  by_cases hn0 : n0 ≤ 1048576
  · skip
    have hn1 : n1 ≤ 1048576 := by omega
    exact law_of a0 c0 a1 c1 z0 n0 (z1.take n1) n1 a2 (loc.loV z0 n0 (z1.take n1) n1 a2 0) (loc.loV z0 n0 (z1.take n1) n1 a2 1) (loc.hiV z0 n0 (z1.take n1) n1 a2 0) (loc.hiV z0 n0 (z1.take n1) n1 a2 1) (loc.fbB z0 n0 (z1.take n1) n1 a2) w hn0 w0 hn1 q1
      (fun A0 c0 A1 c1 w hc0 hc1 h0 h1 => locx.boxS z0 (z1.take n1) a2 A0 A1 n0 c0 n1 c1 w hn0 hn1 h0 h1)
      (fun A0 c0 A1 c1 w hc0 hc1 h0 h1 => locx.boxI z0 (z1.take n1) a2 A0 A1 n0 c0 n1 c1 w hc0 hn0 hn1 h0 h1)
  · have HZ0 := Lib.hid (site.sz a0 n0 c0 w l0)
    rw [if_neg hn0] at HZ0
    clear w0 l0 w1 w2 q1 hn0
    go_enter Try.func7, Try.ntmps7
    go_wp2_with fail
    refine (HZ0.out).mono ?_
    rintro e w' ⟨rfl, rfl⟩
    go_wp2_with fail
    go_ret
    exact ⟨rfl, Below.refl _ _⟩


theorem own : ownKnob Try.prog.godebug = none := by kernel_rfl
theorem laidOut : laidOutB Try.prog = true := by kernel_rfl

set_option maxRecDepth 100000 in
theorem lifted (os : Os) (started : os.Started) (H : Type) (enc : TypeId × Value → H) :
    ReturnsInHanded {} Try.checked os 7 .any (Rows.fnExactFittingBoxSpec.pre6 enc Try.prog Try.f7 Rows.fnExactFittingBoxRow.domain false) (Rows.fnExactFittingBoxSpec.post enc Try.prog Try.f7 false true false false) := by
  refine returnsInHanded_of_change (C := Try.checked) own started (by kernel_rfl) Try.func7
    (ChangeSpec.witness6 (enc := enc) (C := Try.checked) false ⟨#[], #[.slice none 0 0, .slice none 0 0, .int .i64 0], []⟩ 8 (by kernel_rfl) (by kernel_rfl) (by kernel_rfl) (by kernel_rfl)) ?_
  intro W base args ds gs before hval0 hW hcnd _
  have hval : ∀ (j : Nat) t v, Try.f7.params[j]? = some t → args[j]? = some v → Value.okWide Try.prog W .any base t v := hval0
  have hW' := hW
  obtain ⟨p, q, hA0, hV, rfl, hfz, hnd⟩ := hW
  have hA : DataW.TrodAll enc Try.prog W 0 (fun _ => true) true Try.f7.params.toList args.toList ds p := hA0
  rw [Try.params7] at hA hval
  obtain ⟨v0, vs0, d0, ds0, p0, q0, hargs, rfl, rfl, h0, r0⟩ := trodAll_cons hA
  obtain ⟨v1, vs1, d1, ds1, p1, q1, rfl, rfl, rfl, h1, r1⟩ := trodAll_cons r0
  obtain ⟨v2, vs2, d2, ds2, p2, q2, rfl, rfl, rfl, h2, r2⟩ := trodAll_cons r1
  obtain ⟨rfl, rfl, rfl⟩ := trodAll_nil r2
  obtain rfl : args = #[v0, v1, v2] := by cases args; simp_all
  obtain ⟨rfl, rfl⟩ := trodVars_none hV
  obtain ⟨a0, len0, cap0, rfl⟩ := okWide_slice Try.underlying22 (hval 0 22 v0 rfl rfl)
  have k0 := h0
  have lt0 : ∀ x ∈ p0, x.block < W.heap.size := by obtain ⟨m, hm⟩ := k0; exact DataW.trod_lt m _ _ _ hm
  obtain ⟨z0, w0, n0⟩ : ∃ zs, lst.RdZ 2 W W.heap.size a0 len0 zs ∧ len0 ≤ maxLen := by
    obtain ⟨fuel, hf⟩ := h0
    obtain ⟨A, n, c, zs, hcs, hrd, hle⟩ := lsto.open_structs Try.underlying22 Try.underlying25 (by kernel_rfl) (by kernel_rfl) (by decide) (by
        intro j f hg
        match j, hg with
        | 0, hg => exact (Option.some.inj hg) ▸ Try.underlying3
        | 1, hg => exact (Option.some.inj hg) ▸ Try.underlying3
        | q + 2, hg => exact absurd (Array.getElem?_eq_some_iff.1 hg).1 (by simp)) hf
    simp [Value.cells] at hcs
    obtain ⟨rfl, rfl, rfl⟩ := hcs
    exact ⟨zs, hrd, hle⟩
  obtain ⟨a1, len1, cap1, rfl⟩ := okWide_slice Try.underlying23 (hval 1 23 v1 rfl rfl)
  have k1 := h1
  have lt1 : ∀ x ∈ p1, x.block < W.heap.size := by obtain ⟨m, hm⟩ := k1; exact DataW.trod_lt m _ _ _ hm
  obtain ⟨z1, w1⟩ : ∃ zs, IsRow .i64 W a1 len1 cap1 zs := by
    obtain ⟨fuel, hf⟩ := h1
    rcases open_ints Try.underlying23 Try.underlying3 (by kernel_rfl) hf with ⟨hcs, _⟩ | ⟨x, l, c, zs, hcs, _, hl, hm, hz, _, hcell, hwz⟩
    · simp [Value.cells] at hcs
      obtain ⟨rfl, rfl, rfl⟩ := hcs
      exact ⟨[], .inl ⟨rfl, rfl, rfl, rfl⟩⟩
    · simp [Value.cells] at hcs
      obtain ⟨rfl, rfl, rfl⟩ := hcs
      exact ⟨zs, .inr ⟨_, rfl, hl, hm, by simpa using hz, hcell, hwz⟩⟩
  obtain ⟨a2, rfl, rfl, rfl, w2⟩ := open_int Try.underlying3 (hval 2 3 v2 rfl rfl) h2
  clear hA0 hval0
  refine (walk a0 len0 cap0 z0 a1 len1 cap1 z1 a2 W w0 n0 w1 w2).mono fun e W' ⟨he, bel⟩ => ?_
  subst he
  exact ⟨_, rfl, _, _, _, [], _, [], hW', trodAll_mk1 (shut_bool Try.underlying4 _), (trodAll_cons_mk (Below.trod laidOut (by kernel_rfl) (of_decide_eq_true (by kernel_rfl)) k0 bel lt0) (trodAll_cons_mk (Below.trod laidOut (by kernel_rfl) (of_decide_eq_true (by kernel_rfl)) k1 bel lt1) (trodAll_cons_mk (shut_int Try.underlying3 w2) trodAll_mk0))), rfl, bel.frame _, fun h => by cases h⟩

theorem over : Rows.fnExactFittingBoxRow.holds Try.pinned (OpenSpec.ofChange Rows.fnExactFittingBoxSpec) :=
  OpenClaim.holds_of_wide 7 Try.f7 rfl rfl rfl rfl rfl rfl rfl ⟨rfl, rfl, rfl, rfl, rfl⟩ rfl rfl rfl rfl rfl (by kernel_rfl) Try.func7 (by kernel_rfl)
    (of_decide_eq_true (by kernel_rfl)) (by unfold Func.isWrapper; first | (rw [if_pos (by decide +kernel)]; kernel_rfl) | (rw [if_neg (by decide +kernel)]; exact ⟨rfl, rfl⟩))
    (fun os started H enc _ => lifted os started H enc)

theorem proved : Rows.FnExactFittingBoxSaid :=
  over
#print axioms proved
end Go.Proofs.Ytpbopiecfnedgab.fnExactFittingBox
