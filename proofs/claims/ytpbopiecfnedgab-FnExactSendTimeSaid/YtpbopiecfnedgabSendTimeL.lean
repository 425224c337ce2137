/- For every slice of sites, every slice of ints and every point the law FnExactSendTime returns true: impl.SendTime and spec.SendTime return the same send time and true, or both 0 and false; the arguments are left as they were. No condition. -/
import Derived.Test.YtpbopiecfnedgabRows
import Derived.Test.YtpbopiecfnedgabLocT
import Derived.Test.YtpbopiecfnedgabIntC
import Derived.Test.YtpbopiecfnedgabLstO
import Derived.Test.YtpbopiecfnedgabSitE
import Derived.WalkKit
import Derived.ProofKit
import Derived.OpenShut
import Derived.ShutString
import Derived.ChangeOld
import Derived.Below
import Derived.Lib.SmallJoins
import Derived.Lib.QuietBelow
import Derived.Deep.RegionHeld3
import Derived.Deep.CutRange
namespace Go.Proofs.Ytpbopiecfnedgab.fnExactSendTime
open Go.ChangeShapes Go.WideShapes Go.ChangeAt Go.RowKit Go.Joins Go.Proofs.Ytpbopiecfnedgab.ats Go.Proofs.Ytpbopiecfnedgab.ints Go.Proofs.Ytpbopiecfnedgab.lst Go.Proofs.Ytpbopiecfnedgab.intc Go.Proofs.Ytpbopiecfnedgab.code_
open Go.ChangeMaps (open_string shut_string)
set_option linter.unusedVariables false

theorem bool_ne_self (b : Bool) : (b != b) = false := by simp
theorem int_ne_self (x : Int) : (x != x) = false := by simp

/-- The function f returns this. -/
def Gives (f : Nat) (z0 : List Int) (n0 : Nat) (z1 : List Int) (n1 : Nat) (a20 : Int) (a21 : Int) (O0 : Int) (O1 : Bool) : Prop := ∀ (A0 : Option Addr) (c0 : Nat) (A1 : Option Addr) (c1 : Nat) (w : World), n0 ≤ c0 → n1 ≤ c1 → RdZ 2 w w.heap.size A0 n0 z0 → RdI w w.heap.size A1 n1 z1 → 
  Calls Try.prog f #[.slice A0 n0 c0, .slice A1 n1 c1, .agg #[.int .i64 a20, .int .i64 a21]] w fun e w' => e = .returned (.tuple #[.int .i64 O0, .bool O1]) ∧ Below w.heap.size w w'

set_option maxRecDepth 100000 in
set_option maxHeartbeats 8000000 in
theorem law_of (a0 : Option Addr) (c0 : Nat) (a1 : Option Addr) (c1 : Nat) (z0 : List Int) (n0 : Nat) (z1 : List Int) (n1 : Nat) (a20 : Int) (a21 : Int) (O0 : Int) (O1 : Bool) (w : World) (hn0 : n0 ≤ 1048576) (hr0 : RdZ 2 w w.heap.size a0 n0 z0) (hn1 : n1 ≤ 1048576) (hr1 : RdI w w.heap.size a1 n1 z1)
    (hs : Gives 38 z0 n0 z1 n1 a20 a21 O0 O1) (hi : Gives 39 z0 n0 z1 n1 a20 a21 O0 O1) :
    Calls Try.prog 10 #[.slice a0 n0 c0, .slice a1 n1 c1, .agg #[.int .i64 a20, .int .i64 a21]] w fun e w' => e = .returned (.bool true) ∧ Below w.heap.size w w' := by
  have HZ0 := Lib.hid (fun w => site.sz a0 n0 c0 w (by unfold maxLen; omega))
  rw [if_pos hn0] at HZ0
  have d0 : decide ((1048576 : Int) - (n0 : Int) < 0) = false := decide_eq_false (by omega)
  have HC0 := Lib.hid (fun (w' : World) (hb : Below w.heap.size w w') => site.copyS z0 a0 n0 c0 w' hn0 (hr0.next hb))
  have HL0 := Lib.hid hr0.1
  have d1 : ¬ (1048576 : Int) < (n1 : Int) := by omega
  have HC1 := Lib.hid (fun (w' : World) (hb : Below w.heap.size w w') => intc.copyI z1 a1 n1 c1 w' hn1 (hr1.next hb))
  have HL1 := Lib.hid hr1.1
  have HS := Lib.hid (fun (A0 : Option Addr) (c0 : Nat) (A1 : Option Addr) (c1 : Nat) (w : World) (e0 : n0 ≤ c0) (e1 : n1 ≤ c1) (h0 : RdZ 2 w w.heap.size A0 n0 z0) (h1 : RdI w w.heap.size A1 n1 z1) => hs A0 c0 A1 c1 w e0 e1 h0 h1)
  have HI := Lib.hid (fun (A0 : Option Addr) (c0 : Nat) (A1 : Option Addr) (c1 : Nat) (w : World) (e0 : n0 ≤ c0) (e1 : n1 ≤ c1) (h0 : RdZ 2 w w.heap.size A0 n0 z0) (h1 : RdI w w.heap.size A1 n1 z1) => hi A0 c0 A1 c1 w e0 e1 h0 h1)
  have ne0 := int_ne_self O0
  have ne1 := bool_ne_self O1
  clear hs hi hr0 hr1
  have BX2 := Lib.hid (newS 25 #[.int .i64 a20, .int .i64 a21] w)
  go_enter Try.func10, Try.ntmps10
  go_wp2_with fail
  generalize (w.alloc (.cells #[.int .i64 a20, .int .i64 a21] 25)) = W0 at *
  have AN1 := Lib.hid (BX2.out.1)
  have AN2 := Lib.hid (Below.refl W0.heap.size W0)
  refine (HZ0.out W0).mono ?_
  rintro e w' ⟨rfl, rfl⟩
  go_upto_region 7 with fail
  have CS3 := Lib.hid (show ∀ WZ : World, Below W0.heap.size W0 WZ → WZ.cell? ⟨w.heap.size, 0, none⟩ = some (.int .i64 a20) ∧ WZ.cell? ⟨w.heap.size, 1, none⟩ = some (.int .i64 a21) from fun WZ hz => And.intro (site.at_cell (BX2.out.old (AN2.out.trans (hz.mono AN2.out.size))) 0 (.int .i64 a20) rfl) (site.at_cell (BX2.out.old (AN2.out.trans (hz.mono AN2.out.size))) 1 (.int .i64 a21) rfl))
  have KC0_3 := Lib.hid (fun (WZ : World) (hz : Below W0.heap.size W0 WZ) => HC0.out WZ (AN1.out.trans (hz.mono AN1.out.size)))
  have KC1_3 := Lib.hid (fun (WZ : World) (hz : Below W0.heap.size W0 WZ) => HC1.out WZ (AN1.out.trans (hz.mono AN1.out.size)))
  go_cut [8, 9] from 22 to 31 (fun p0 p1 wz => p0 = .int .i64 O0 ∧ p1 = .bool O1 ∧ Below W0.heap.size W0 wz)
  case first =>
    go_region_held3 (fun w' => w'.cell? ⟨w.heap.size, 0, none⟩ = some (.int .i64 a20) ∧ w'.cell? ⟨w.heap.size, 1, none⟩ = some (.int .i64 a21)) (first
      | exact CS3.out _ (Below.refl W0.heap.size W0).drew
      | exact CS3.out _ (by assumption)
      | go_keep) (first
      | (go_at_call 16; (with_reducible refine (KC0_3.out _ (by first | exact (Below.refl W0.heap.size W0).drew | assumption)).mono ?_); rintro e w0' ⟨g0, rfl, ho, hb⟩
         have hl0' := site.bl_next (V := W0) (by first | exact (Below.refl W0.heap.size W0).drew | assumption) hb
         have r0_0 := RdZ.of_own ho HL0.out
         clear ho hb)
      | (go_at_call 17; (with_reducible refine (KC1_3.out _ (by first | exact (Below.refl W0.heap.size W0).drew | assumption)).mono ?_); rintro e w1' ⟨g1, rfl, ho, hb⟩
         have hl1' := site.bl_next (V := W0) (by first | exact (Below.refl W0.heap.size W0).drew | assumption) hb
         have r0_1 := r0_0.next hb
         have r1_1 := intc.rd_of_own ho HL1.out
         clear ho hb)
      | (go_at_call 18; (with_reducible refine (site.toSite a20 a21 _).mono ?_); rintro e w2' ⟨rfl, hb⟩
         have hl2' := site.bl_next (V := W0) (by first | exact (Below.refl W0.heap.size W0).drew | assumption) hb
         have r0_2 := r0_1.next hb
         have r1_2 := r1_1.next hb
         clear hb)
      | (go_at_call 38; (with_reducible refine (HS.out _ _ _ _ _ (Nat.le_refl _) (Nat.le_refl _) r0_2 r1_2).mono ?_); rintro e wF' ⟨rfl, hb⟩
         have hlF := site.bl_next (V := W0) (by assumption) hb
         clear hb))
    all_goals (go_wp2_with fail; go_meet; exact ⟨rfl, rfl, by assumption⟩)
  case rest =>
    obtain ⟨rfl, rfl, h5⟩ := hcut
    generalize wc = V4 at *
    clear CS3 KC0_3 KC1_3
    have AN7 := Lib.hid (AN1.out.trans (h5.mono AN1.out.size))
    clear AN1
    have AN8 := Lib.hid (AN2.out.trans (h5.mono AN2.out.size))
    clear AN2
    clear h5
    go_wp2_with fail
    refine (HC0.out V4 AN7.out).mono ?_
    rintro e V9 ⟨g12, rfl, ho11, h10⟩
    have LE13 := Lib.hid AN7.out.size
    have LE14 := Lib.hid AN8.out.size
    have AN15 := Lib.hid (AN7.out.trans (h10.mono AN7.out.size))
    clear AN7
    have AN16 := Lib.hid (AN8.out.trans (h10.mono AN8.out.size))
    clear AN8
    have rd17 := Lib.hid (RdZ.of_own ho11 HL0.out)
    have OW18 := Lib.hid ho11
    have LT19 := Lib.hid (own_row_lt ho11)
    have AN20 := Lib.hid (Below.refl V9.heap.size V9)
    clear h10 ho11
    go_wp2_with fail
    refine (HC1.out V9 AN15.out).mono ?_
    rintro e V21 ⟨g24, rfl, ho23, h22⟩
    have LE25 := Lib.hid AN15.out.size
    have LE26 := Lib.hid AN16.out.size
    have LE27 := Lib.hid AN20.out.size
    have AN28 := Lib.hid (AN15.out.trans (h22.mono AN15.out.size))
    clear AN15
    have AN29 := Lib.hid (AN16.out.trans (h22.mono AN16.out.size))
    clear AN16
    have AN30 := Lib.hid (AN20.out.trans (h22.mono AN20.out.size))
    clear AN20
    have OW31 := Lib.hid (own_.own_below OW18.out h22)
    clear OW18
    have rd32 := Lib.hid (intc.rd_of_own ho23 HL1.out)
    have OW33 := Lib.hid ho23
    have LT34 := Lib.hid (own_row_lt ho23)
    have AN35 := Lib.hid (Below.refl V21.heap.size V21)
    clear h22 ho23
    have S36 := Lib.hid (BX2.out.old AN29.out)
    have c37 : V21.cell? ⟨w.heap.size, 0, none⟩ = some (.int .i64 a20) := S36.out.cell 0
    have c38 : V21.cell? ⟨w.heap.size, 1, none⟩ = some (.int .i64 a21) := S36.out.cell 1
    go_wp2_with fail
    clear c37 c38 S36
    refine (site.toSite a20 a21 V21).mono ?_
    rintro e V39 ⟨rfl, h40⟩
    have AN41 := Lib.hid (AN28.out.trans (h40.mono AN28.out.size))
    clear AN28
    have AN42 := Lib.hid (AN29.out.trans (h40.mono AN29.out.size))
    clear AN29
    have AN43 := Lib.hid (AN30.out.trans (h40.mono AN30.out.size))
    clear AN30
    have AN44 := Lib.hid (AN35.out.trans (h40.mono AN35.out.size))
    clear AN35
    have OW45 := Lib.hid (own_.own_below OW31.out h40)
    clear OW31
    have OW46 := Lib.hid (own_.own_below OW33.out h40)
    clear OW33
    clear h40
    have rd47 := Lib.hid (RdZ.of_own OW45.out HL0.out)
    have rd48 := Lib.hid (intc.rd_of_own OW46.out HL1.out)
    have LE49 := Lib.hid AN41.out.size
    have LE50 := Lib.hid AN42.out.size
    have LE51 := Lib.hid AN43.out.size
    have LE52 := Lib.hid AN44.out.size
    go_wp2_with fail
    refine (HI.out _ _ _ _ V39 (Nat.le_refl _) (Nat.le_refl _) rd47.out rd48.out).mono ?_
    rintro e V53 ⟨rfl, h54⟩
    clear rd47 rd48
    have AN56 := Lib.hid (AN41.out.trans (h54.mono AN41.out.size))
    clear AN41
    have AN57 := Lib.hid (AN42.out.trans (h54.mono AN42.out.size))
    clear AN42
    have AN58 := Lib.hid (AN43.out.trans (h54.mono AN43.out.size))
    clear AN43
    have AN59 := Lib.hid (AN44.out.trans (h54.mono AN44.out.size))
    clear AN44
    have OW60 := Lib.hid (own_.own_below OW45.out h54)
    clear OW45
    have OW61 := Lib.hid (own_.own_below OW46.out h54)
    clear OW46
    clear h54
    clear AN58
    clear AN59
    go_wp2_with fail
    refine (HC0.out V53 AN56.out).mono ?_
    rintro e V62 ⟨g65, rfl, ho64, h63⟩
    have AN66 := Lib.hid (AN56.out.trans (h63.mono AN56.out.size))
    clear AN56
    have AN67 := Lib.hid (AN57.out.trans (h63.mono AN57.out.size))
    clear AN57
    have OW68 := Lib.hid (own_.own_below OW60.out h63)
    clear OW60
    have OW69 := Lib.hid (own_.own_below OW61.out h63)
    clear OW61
    have rd70 := Lib.hid (RdZ.of_own ho64 HL0.out)
    clear h63 ho64
    have E71 := Lib.hid (site.eqS z0 _ _ n0 n0 n0 V62 (by omega) (RdZ.of_own OW68.out HL0.out) rd70.out)
    clear rd70
    go_wp2_with fail
    refine E71.out.mono ?_
    rintro e V72 ⟨rfl, h73⟩
    clear E71
    have AN74 := Lib.hid (AN66.out.trans (h73.mono AN66.out.size))
    clear AN66
    have AN75 := Lib.hid (AN67.out.trans (h73.mono AN67.out.size))
    clear AN67
    have OW76 := Lib.hid (own_.own_below OW68.out h73)
    clear OW68
    have OW77 := Lib.hid (own_.own_below OW69.out h73)
    clear OW69
    clear h73
    go_wp2_with fail
    refine (HC1.out V72 AN74.out).mono ?_
    rintro e V78 ⟨g81, rfl, ho80, h79⟩
    have AN82 := Lib.hid (AN74.out.trans (h79.mono AN74.out.size))
    clear AN74
    have AN83 := Lib.hid (AN75.out.trans (h79.mono AN75.out.size))
    clear AN75
    have OW84 := Lib.hid (own_.own_below OW76.out h79)
    clear OW76
    have OW85 := Lib.hid (own_.own_below OW77.out h79)
    clear OW77
    have rd86 := Lib.hid (intc.rd_of_own ho80 HL1.out)
    clear h79 ho80
    have E87 := Lib.hid (ints.eq_same z1 _ _ n1 n1 n1 V78 (by omega) (intc.rd_of_own OW85.out HL1.out) rd86.out)
    clear rd86
    go_wp2_with fail
    refine E87.out.mono ?_
    rintro e wx ⟨rfl, j88, rfl⟩
    clear E87
    have AN90 := Lib.hid (aid.below_drewN AN82.out j88)
    clear AN82
    have AN91 := Lib.hid (aid.below_drewN AN83.out j88)
    clear AN83
    have OW92 := Lib.hid (own_.own_drewN OW84.out j88)
    clear OW84
    have OW93 := Lib.hid (own_.own_drewN OW85.out j88)
    clear OW85
    generalize V78.drewN j88 = V89 at *
    go_wp2_with fail
    go_ret
    exact ⟨rfl, AN90.out⟩

set_option maxRecDepth 100000 in
theorem walk (a0 : Option Addr) (n0 c0 : Nat) (z0 : List Int) (a1 : Option Addr) (n1 c1 : Nat) (z1 : List Int) (a20 : Int) (a21 : Int) (w : World) (w0 : RdZ 2 w w.heap.size a0 n0 z0) (l0 : n0 ≤ maxLen) (w1 : IsRow .i64 w a1 n1 c1 z1) (w20 : (Lit.int .i64 a20).wf = true) (w21 : (Lit.int .i64 a21).wf = true) :
    Calls Try.prog 10 #[.slice a0 n0 c0, .slice a1 n1 c1, .agg #[.int .i64 a20, .int .i64 a21]] w fun e w' => e = .returned (.bool true) ∧ Below w.heap.size w w' := by
  by_cases hn1 : (1048576 : Int) < (n1 : Int)
  · clear w0 l0 w1 w20 w21
    go_enter Try.func10, Try.ntmps10
    go_wp2_with fail
    go_ret
    exact ⟨rfl, (Below.refl _ _).alloc (Nat.le_refl _) _⟩
  obtain ⟨q1, -, -⟩ := intc.rd_of_row w1
  by_cases hn0 : n0 ≤ 1048576
  · skip
    have hn1 : n1 ≤ 1048576 := by omega
    exact law_of a0 c0 a1 c1 z0 n0 (z1.take n1) n1 a20 a21 (loc.tmV z0 n0 (z1.take n1) n1 a20 a21) (loc.tmB z0 n0 (z1.take n1) n1 a20 a21) w hn0 w0 hn1 q1
      (fun A0 c0 A1 c1 w hc0 hc1 h0 h1 => loct.sendS z0 (z1.take n1) a20 a21 A0 A1 n0 c0 n1 c1 w hn0 hn1 h0 h1)
      (fun A0 c0 A1 c1 w hc0 hc1 h0 h1 => loct.sendI z0 (z1.take n1) a20 a21 A0 A1 n0 c0 n1 c1 w hc0 hn0 hn1 h0 h1)
  · have HZ0 := Lib.hid (fun w => site.sz a0 n0 c0 w l0)
    rw [if_neg hn0] at HZ0
    clear w0 l0 w1 w20 w21 q1 hn0
    go_enter Try.func10, Try.ntmps10
    go_wp2_with fail
    refine (HZ0.out _).mono ?_
    rintro e w' ⟨rfl, rfl⟩
    go_wp2_with fail
    go_ret
    exact ⟨rfl, (Below.refl _ _).alloc (Nat.le_refl _) _⟩


theorem own : ownKnob Try.prog.godebug = none := by kernel_rfl
theorem laidOut : laidOutB Try.prog = true := by kernel_rfl

set_option maxRecDepth 100000 in
theorem lifted (os : Os) (started : os.Started) (H : Type) (enc : TypeId × Value → H) :
    ReturnsInHanded {} Try.checked os 10 .any (Rows.fnExactSendTimeSpec.pre6 enc Try.prog Try.f10 Rows.fnExactSendTimeRow.domain false) (Rows.fnExactSendTimeSpec.post enc Try.prog Try.f10 false true false false) := by
  refine returnsInHanded_of_change (C := Try.checked) own started (by kernel_rfl) Try.func10
    (ChangeSpec.witness6 (enc := enc) (C := Try.checked) false ⟨#[], #[.slice none 0 0, .slice none 0 0, .agg #[.int .i64 0, .int .i64 0]], []⟩ 8 (by kernel_rfl) (by kernel_rfl) (by kernel_rfl) (by kernel_rfl)) ?_
  intro W base args ds gs before hval0 hW hcnd _
  have hval : ∀ (j : Nat) t v, Try.f10.params[j]? = some t → args[j]? = some v → Value.okWide Try.prog W .any base t v := hval0
  have hW' := hW
  obtain ⟨p, q, hA0, hV, rfl, hfz, hnd⟩ := hW
  have hA : DataW.TrodAll enc Try.prog W 0 (fun _ => true) true Try.f10.params.toList args.toList ds p := hA0
  rw [Try.params10] at hA hval
  obtain ⟨v0, vs0, d0, ds0, p0, q0, hargs, rfl, rfl, h0, r0⟩ := trodAll_cons hA
  obtain ⟨v1, vs1, d1, ds1, p1, q1, rfl, rfl, rfl, h1, r1⟩ := trodAll_cons r0
  obtain ⟨v2, vs2, d2, ds2, p2, q2, rfl, rfl, rfl, h2, r2⟩ := trodAll_cons r1
  obtain ⟨rfl, rfl, rfl⟩ := trodAll_nil r2
  obtain rfl : args = #[v0, v1, v2] := by cases args; simp_all
  obtain ⟨rfl, rfl⟩ := trodVars_none hV
  obtain ⟨a0, len0, cap0, rfl⟩ := okWide_slice Try.underlying22 (hval 0 22 v0 rfl rfl)
  have k0 := h0
  have lt0 : ∀ x ∈ p0, x.block < W.heap.size := by obtain ⟨m, hm⟩ := k0; exact DataW.trod_lt m _ _ _ hm
  obtain ⟨z0, w0, n0⟩ : ∃ zs, lst.RdZ 2 W W.heap.size a0 len0 zs ∧ len0 ≤ maxLen := by
    obtain ⟨fuel, hf⟩ := h0
    obtain ⟨A, n, c, zs, hcs, hrd, hle⟩ := lsto.open_structs Try.underlying22 Try.underlying25 (by kernel_rfl) (by kernel_rfl) (by decide) (by
        intro j f hg
        match j, hg with
        | 0, hg => exact (Option.some.inj hg) ▸ Try.underlying3
        | 1, hg => exact (Option.some.inj hg) ▸ Try.underlying3
        | q + 2, hg => exact absurd (Array.getElem?_eq_some_iff.1 hg).1 (by simp)) hf
    simp [Value.cells] at hcs
    obtain ⟨rfl, rfl, rfl⟩ := hcs
    exact ⟨zs, hrd, hle⟩
  obtain ⟨a1, len1, cap1, rfl⟩ := okWide_slice Try.underlying23 (hval 1 23 v1 rfl rfl)
  have k1 := h1
  have lt1 : ∀ x ∈ p1, x.block < W.heap.size := by obtain ⟨m, hm⟩ := k1; exact DataW.trod_lt m _ _ _ hm
  obtain ⟨z1, w1⟩ : ∃ zs, IsRow .i64 W a1 len1 cap1 zs := by
    obtain ⟨fuel, hf⟩ := h1
    rcases open_ints Try.underlying23 Try.underlying3 (by kernel_rfl) hf with ⟨hcs, _⟩ | ⟨x, l, c, zs, hcs, _, hl, hm, hz, _, hcell, hwz⟩
    · simp [Value.cells] at hcs
      obtain ⟨rfl, rfl, rfl⟩ := hcs
      exact ⟨[], .inl ⟨rfl, rfl, rfl, rfl⟩⟩
    · simp [Value.cells] at hcs
      obtain ⟨rfl, rfl, rfl⟩ := hcs
      exact ⟨zs, .inr ⟨_, rfl, hl, hm, by simpa using hz, hcell, hwz⟩⟩
  have k2 := h2
  have lt2 : ∀ x ∈ p2, x.block < W.heap.size := by obtain ⟨m, hm⟩ := k2; exact DataW.trod_lt m _ _ _ hm
  obtain ⟨f20, f21, y20, y21, m2, rfl, rfl, rfl, t20, t21⟩ := open_agg2 Try.underlying25 (by kernel_rfl) (by kernel_rfl) (hval 2 25 v2 rfl rfl) h2
  obtain ⟨a20, e20, -, w20⟩ := DataW.trod_int Try.underlying3 t20
  obtain rfl : f20 = .int .i64 a20 := by simpa using e20
  obtain ⟨a21, e21, -, w21⟩ := DataW.trod_int Try.underlying3 t21
  obtain rfl : f21 = .int .i64 a21 := by simpa using e21
  clear hA0 hval0
  refine (walk a0 len0 cap0 z0 a1 len1 cap1 z1 a20 a21 W w0 n0 w1 w20 w21).mono fun e W' ⟨he, bel⟩ => ?_
  subst he
  exact ⟨_, rfl, _, _, _, [], _, [], hW', trodAll_mk1 (shut_bool Try.underlying4 _), (trodAll_cons_mk (Below.trod laidOut (by kernel_rfl) (of_decide_eq_true (by kernel_rfl)) k0 bel lt0) (trodAll_cons_mk (Below.trod laidOut (by kernel_rfl) (of_decide_eq_true (by kernel_rfl)) k1 bel lt1) (trodAll_cons_mk (Below.trod laidOut (by kernel_rfl) (of_decide_eq_true (by kernel_rfl)) k2 bel lt2) trodAll_mk0))), rfl, bel.frame _, fun h => by cases h⟩

theorem over : Rows.fnExactSendTimeRow.holds Try.pinned (OpenSpec.ofChange Rows.fnExactSendTimeSpec) :=
  OpenClaim.holds_of_wide 10 Try.f10 rfl rfl rfl rfl rfl rfl rfl ⟨rfl, rfl, rfl, rfl, rfl⟩ rfl rfl rfl rfl rfl (by kernel_rfl) Try.func10 (by kernel_rfl)
    (of_decide_eq_true (by kernel_rfl)) (by unfold Func.isWrapper; first | (rw [if_pos (by decide +kernel)]; kernel_rfl) | (rw [if_neg (by decide +kernel)]; exact ⟨rfl, rfl⟩))
    (fun os started H enc _ => lifted os started H enc)

theorem proved : Rows.FnExactSendTimeSaid :=
  over
#print axioms proved
end Go.Proofs.Ytpbopiecfnedgab.fnExactSendTime
