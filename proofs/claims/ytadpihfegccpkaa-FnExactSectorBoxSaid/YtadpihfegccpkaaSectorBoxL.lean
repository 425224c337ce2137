/- For every sector the law FnExactSectorBox returns true: impl.SectorBox and spec.SectorBox return the same two places and truth, and the argument is left as it was. No condition. -/
import Derived.Test.YtadpihfegccpkaaRows
import Derived.Test.YtadpihfegccpkaaSctX
import Derived.Test.YtadpihfegccpkaaSctN
import Derived.Test.YtadpihfegccpkaaSecE
import Derived.Test.YtadpihfegccpkaaSecZ
import Derived.Test.YtadpihfegccpkaaPlcE
import Derived.Test.YtadpihfegccpkaaPosX
import Derived.Test.YtadpihfegccpkaaCode
import Derived.Test.YtadpihfegccpkaaIntC
import Derived.Test.YtadpihfegccpkaaLstO
import Derived.WalkKit
import Derived.ProofKit
import Derived.OpenShut
import Derived.ShutString
import Derived.ChangeOld
import Derived.Below
import Derived.Lib.SmallJoins
import Derived.Lib.QuietBelow
import Derived.Deep.RegionHeld3
import Derived.Deep.CutRange
namespace Go.Proofs.Ytadpihfegccpkaa.fnExactSectorBox
open Go.ChangeShapes Go.WideShapes Go.ChangeAt Go.RowKit Go.Joins Go.Proofs.Ytadpihfegccpkaa.ats Go.Proofs.Ytadpihfegccpkaa.ints Go.Proofs.Ytadpihfegccpkaa.lst
set_option linter.unusedVariables false

set_option maxRecDepth 100000 in
set_option maxHeartbeats 4000000 in
theorem walk (d : Int) (A : Option Addr) (n c : Nat) (zs : List Int) (w : World) (h : RdZ 2 w w.heap.size A n zs) (hl : n ≤ maxLen) :
    Calls Try.prog 10 #[.agg #[.int .i64 d, .slice A n c]] w fun e w' => e = .returned (.bool true) ∧ Below w.heap.size w w' := by
  have S0 := Lib.hid (newS 57 #[.int .i64 d, .slice A n c] w)
  by_cases hn : (n : Int) ≤ 1048576
  case neg =>
    have Z := fun w => sece.sz d A n c 1048576 w hl (by omega) (by omega)
    rw [if_neg hn] at Z
    have Z := Lib.hid Z
    clear h
    go_enter Try.func10, Try.ntmps10
    go_upto_region 2 with fail
    generalize w.alloc (.cells #[.int .i64 d, .slice A n c] 57) = W0 at *
    have b0 : W0.cell? ⟨w.heap.size, 0, none⟩ = some (.int .i64 d) := S0.out.cell 0
    have b1 : W0.cell? ⟨w.heap.size, 1, none⟩ = some (.slice A n c) := S0.out.cell 1
    go_wp2_with fail
    clear b0 b1
    refine (Z.out _).mono ?_
    rintro e V1 ⟨rfl, hb⟩
    have BX := Lib.hid (S0.out.old hb)
    clear hb
    go_wp2_with fail
    go_ret
    exact ⟨rfl, BX.out.1⟩
  have Z := fun w => sece.sz d A n c 1048576 w hl (by omega) (by omega)
  rw [if_pos hn] at Z
  have Z := Lib.hid Z
  have dz : decide ((1048576 : Int) - (n : Int) < 0) = false := decide_eq_false (by omega)
  have ez : ¬ (1048576 : Int) - (n : Int) < 0 := by omega
  have hn2 : n ≤ 1048576 := by omega
  have T := Lib.hid (fun (W : World) (hb : Below w.heap.size w W) => sece.toSector d zs A n c W hn2 (h.next hb))
  have HL := Lib.hid h.1
  have CS := Lib.hid (fun (W : World) (g : Nat) (h : RdZ 2 W W.heap.size (some ⟨g, 0, none⟩) n zs) => sctn.sectorBox d zs (some ⟨g, 0, none⟩) n n W hn2 h)
  have CI := Lib.hid (fun (W : World) (g : Nat) (h : RdZ 2 W W.heap.size (some ⟨g, 0, none⟩) n zs) => sctx.sectorBox d zs (some ⟨g, 0, none⟩) n n W (Nat.le_refl _) hn2 h)
  generalize sctx.sbL d zs n sctj.cX = p1 at *
  generalize sctx.sbL d zs n sctj.cY = p2 at *
  generalize sctx.sbH d zs n sctj.cX = p3 at *
  generalize sctx.sbH d zs n sctj.cY = p4 at *
  generalize sctr.seV d zs n = q0 at *
  have ne0 : (q0 != q0) = false := by simp
  have EX := Lib.hid (fun (W : World) (g g' : Nat) (h : RdZ 2 W W.heap.size (some ⟨g, 0, none⟩) n zs) (h' : RdZ 2 W W.heap.size (some ⟨g', 0, none⟩) n zs) => sece.eqSector d zs (some ⟨g, 0, none⟩) (some ⟨g', 0, none⟩) n n n W (by omega) h h')
  have E1 := Lib.hid (fun W => plce.eqPlace p1 p2 W)
  have E2 := Lib.hid (fun W => plce.eqPlace p3 p4 W)
  clear h
  generalize (1048576 : Int) - (n : Int) = v0 at *
  go_enter Try.func10, Try.ntmps10
  go_upto_region 2 with fail
  generalize w.alloc (.cells #[.int .i64 d, .slice A n c] 57) = W0 at *
  have b0 : W0.cell? ⟨w.heap.size, 0, none⟩ = some (.int .i64 d) := S0.out.cell 0
  have b1 : W0.cell? ⟨w.heap.size, 1, none⟩ = some (.slice A n c) := S0.out.cell 1
  go_wp2_with fail
  clear b0 b1
  refine (Z.out _).mono ?_
  rintro e V1 ⟨rfl, hb⟩
  have SA := Lib.hid (S0.out.old hb)
  clear hb S0
  have b0 : V1.cell? ⟨w.heap.size, 0, none⟩ = some (.int .i64 d) := SA.out.cell 0
  have b1 : V1.cell? ⟨w.heap.size, 1, none⟩ = some (.slice A n c) := SA.out.cell 1
  go_wp2_with fail
  clear b0 b1
  refine (T.out V1 SA.out.1).mono ?_
  rintro e V2 ⟨gs, rfl, ho, hb⟩
  have RS := Lib.hid (RdZ.of_own ho HL.out)
  have SB := Lib.hid (SA.out.old hb)
  clear ho hb SA
  go_wp2_with fail
  refine (CS.out V2 gs RS.out).mono ?_
  rintro e V3 ⟨rfl, hb⟩
  have SC := Lib.hid (SB.out.old hb)
  clear hb RS SB
  have XW1 := Lib.hid ((newS 28 #[.int .i64 p1, .int .i64 p2] V3).alloc (.cells #[.int .i64 p3, .int .i64 p4] 28))
  have XW2 := Lib.hid ((newS 28 #[.int .i64 p1, .int .i64 p2] V3).next 28 #[.int .i64 p3, .int .i64 p4])
  rw [World.size_alloc] at XW2
  go_upto_region 6 with fail
  generalize (V3.alloc (.cells #[.int .i64 p1, .int .i64 p2] 28)).alloc (.cells #[.int .i64 p3, .int .i64 p4] 28) = V4 at *
  have SD := Lib.hid (SC.out.old XW1.out.1)
  clear SC
  have b0 : V4.cell? ⟨w.heap.size, 0, none⟩ = some (.int .i64 d) := SD.out.cell 0
  have b1 : V4.cell? ⟨w.heap.size, 1, none⟩ = some (.slice A n c) := SD.out.cell 1
  go_wp2_with fail
  clear b0 b1
  refine (T.out V4 SD.out.1).mono ?_
  rintro e V5 ⟨gx, rfl, ho, hb⟩
  have RX5 := Lib.hid (RdZ.of_own ho HL.out)
  have A5 := Lib.hid hb
  clear ho hb
  have XX := Lib.hid (newS 26 #[.int .i64 d, .slice (some ⟨gx, 0, none⟩) n n] V5)
  go_upto_region 7 with fail
  generalize V5.alloc (.cells #[.int .i64 d, .slice (some ⟨gx, 0, none⟩) n n] 26) = V6 at *
  have RX6 := Lib.hid (RX5.out.next XX.out.1)
  have A6 := Lib.hid (A5.out.trans (XX.out.1.mono A5.out.size))
  have x0 : V6.cell? ⟨V5.heap.size, 0, none⟩ = some (.int .i64 d) := XX.out.cell 0
  have x1 : V6.cell? ⟨V5.heap.size, 1, none⟩ = some (.slice (some ⟨gx, 0, none⟩) n n) := XX.out.cell 1
  go_wp2_with fail
  clear x0 x1
  refine (CI.out V6 gx RX6.out).mono ?_
  rintro e V7 ⟨rfl, hb⟩
  have A7 := Lib.hid (A6.out.trans (hb.mono A6.out.size))
  have XX7 := Lib.hid (XX.out.old hb)
  have RX7 := Lib.hid (RX6.out.next hb)
  clear hb RX5 RX6
  have XG1 := Lib.hid ((newS 28 #[.int .i64 p1, .int .i64 p2] V7).alloc (.cells #[.int .i64 p3, .int .i64 p4] 28))
  have XG2 := Lib.hid ((newS 28 #[.int .i64 p1, .int .i64 p2] V7).next 28 #[.int .i64 p3, .int .i64 p4])
  rw [World.size_alloc] at XG2
  go_upto_region 8 with fail
  generalize (V7.alloc (.cells #[.int .i64 p1, .int .i64 p2] 28)).alloc (.cells #[.int .i64 p3, .int .i64 p4] 28) = V8 at *
  have A8 := Lib.hid (A7.out.trans (XG1.out.1.mono A7.out.size))
  have XX8 := Lib.hid (XX7.out.old XG1.out.1)
  have RX8 := Lib.hid (RX7.out.next XG1.out.1)
  have W1 := Lib.hid (XW1.out.old A8.out)
  have W2 := Lib.hid (XW2.out.old A8.out)
  have g0 : V8.cell? ⟨V7.heap.size, 0, none⟩ = some (.int .i64 p1) := XG1.out.cell 0
  have g1 : V8.cell? ⟨V7.heap.size, 1, none⟩ = some (.int .i64 p2) := XG1.out.cell 1
  have w0 : V8.cell? ⟨V3.heap.size, 0, none⟩ = some (.int .i64 p1) := W1.out.cell 0
  have w1 : V8.cell? ⟨V3.heap.size, 1, none⟩ = some (.int .i64 p2) := W1.out.cell 1
  go_wp2_with fail
  clear g0 g1 w0 w1
  refine (E1.out V8).mono ?_
  rintro e V9 ⟨rfl, hb⟩
  have A9 := Lib.hid (A8.out.trans (hb.mono A8.out.size))
  have XX9 := Lib.hid (XX8.out.old hb)
  have RX9 := Lib.hid (RX8.out.next hb)
  have G2 := Lib.hid (XG2.out.old hb)
  have W2b := Lib.hid (W2.out.old hb)
  clear hb RX7 RX8
  have g0 : V9.cell? ⟨V7.heap.size + 1, 0, none⟩ = some (.int .i64 p3) := G2.out.cell 0
  have g1 : V9.cell? ⟨V7.heap.size + 1, 1, none⟩ = some (.int .i64 p4) := G2.out.cell 1
  have w0 : V9.cell? ⟨V3.heap.size + 1, 0, none⟩ = some (.int .i64 p3) := W2b.out.cell 0
  have w1 : V9.cell? ⟨V3.heap.size + 1, 1, none⟩ = some (.int .i64 p4) := W2b.out.cell 1
  go_wp2_with fail
  clear g0 g1 w0 w1
  refine (E2.out V9).mono ?_
  rintro e V10 ⟨rfl, hb⟩
  have A10 := Lib.hid (A9.out.trans (hb.mono A9.out.size))
  have XX10 := Lib.hid (XX9.out.old hb)
  have RX10 := Lib.hid (RX9.out.next hb)
  have S10 := Lib.hid (SD.out.old A10.out)
  clear hb RX9
  have CSr := Lib.hid (show ∀ WZ : World, Below V10.heap.size V10 WZ → World.cell? WZ ⟨w.heap.size, 0, none⟩ = some (.int .i64 d) ∧ World.cell? WZ ⟨w.heap.size, 1, none⟩ = some (.slice A n c) ∧ World.cell? WZ ⟨V5.heap.size, 0, none⟩ = some (.int .i64 d) ∧ World.cell? WZ ⟨V5.heap.size, 1, none⟩ = some (.slice (some ⟨gx, 0, none⟩) n n) from fun WZ hz => ⟨(S10.out.old hz).cell 0, (S10.out.old hz).cell 1, (XX10.out.old hz).cell 0, (XX10.out.old hz).cell 1⟩)
  have TR := Lib.hid (fun (U : World) (hb : Below V10.heap.size V10 U) => T.out U (S10.out.1.trans (hb.mono S10.out.1.size)))
  go_upto_region 10 with fail
  go_cut [50] from 46 to 50 (fun s wz => s = .bool false ∧ Below V10.heap.size V10 wz)
  case first =>
    go_region_held3 (fun w' => World.cell? w' ⟨w.heap.size, 0, none⟩ = some (.int .i64 d) ∧ World.cell? w' ⟨w.heap.size, 1, none⟩ = some (.slice A n c) ∧ World.cell? w' ⟨V5.heap.size, 0, none⟩ = some (.int .i64 d) ∧ World.cell? w' ⟨V5.heap.size, 1, none⟩ = some (.slice (some ⟨gx, 0, none⟩) n n)) (first
      | with_reducible exact CSr.out _ (Below.refl V10.heap.size V10).drew
      | with_reducible exact CSr.out _ (by assumption)
      | go_keep) (first
        | (go_at_call 41; (with_reducible refine (TR.out _ (by first | exact (Below.refl V10.heap.size V10).drew | assumption)).mono ?_); rintro e U0 ⟨g0, rfl, ho0, hb0⟩
           have hbl0 := posx.bl_next (V := V10) (by first | exact (Below.refl V10.heap.size V10).drew | assumption) hb0
           have R0 := RdZ.of_own ho0 HL.out
           clear ho0)
        | (go_at_call 42; (with_reducible refine (EX.out _ gx g0 (RX10.out.next hbl0) R0).mono ?_); rintro e U1 ⟨rfl, hb1⟩
           have hbl1 := posx.bl_next (V := V10) hbl0 hb1))
    all_goals (
      go_wp2_with fail
      go_meet
      exact ⟨rfl, hbl1⟩)
  case rest =>
    obtain ⟨rfl, hb⟩ := hcut
    have S11 := Lib.hid (S10.out.old hb)
    clear hb
    go_wp2_with fail
    go_ret
    exact ⟨rfl, S11.out.1⟩

theorem own : ownKnob Try.prog.godebug = none := by kernel_rfl
theorem laidOut : laidOutB Try.prog = true := by kernel_rfl

set_option maxRecDepth 100000 in
theorem lifted (os : Os) (started : os.Started) (H : Type) (enc : TypeId × Value → H) :
    ReturnsInHanded {} Try.checked os 10 .any (Rows.fnExactSectorBoxSpec.pre6 enc Try.prog Try.f10 Rows.fnExactSectorBoxRow.domain false) (Rows.fnExactSectorBoxSpec.post enc Try.prog Try.f10 false true false false) := by
  refine returnsInHanded_of_change (C := Try.checked) own started (by kernel_rfl) Try.func10
    (ChangeSpec.witness6 (enc := enc) (C := Try.checked) false ⟨#[], #[.agg #[.int .i64 0, .slice none 0 0]], []⟩ 8 (by kernel_rfl) (by kernel_rfl) (by kernel_rfl) (by kernel_rfl)) ?_
  intro W base args ds gs before hval0 hW hcnd _
  have hval : ∀ (j : Nat) t v, Try.f10.params[j]? = some t → args[j]? = some v → Value.okWide Try.prog W .any base t v := hval0
  have hW' := hW
  obtain ⟨p, q, hA0, hV, rfl, hfz, hnd⟩ := hW
  have hA : DataW.TrodAll enc Try.prog W 0 (fun _ => true) true Try.f10.params.toList args.toList ds p := hA0
  rw [Try.params10] at hA hval
  obtain ⟨v0, vs0, d0, ds0, p0, q0, hargs, rfl, rfl, h0, r0⟩ := trodAll_cons hA
  obtain ⟨rfl, rfl, rfl⟩ := trodAll_nil r0
  obtain rfl : args = #[v0] := by cases args; simp_all
  obtain ⟨rfl, rfl⟩ := trodVars_none hV
  have k0 := h0
  have lt0 : ∀ x ∈ p0, x.block < W.heap.size := by obtain ⟨m, hm⟩ := k0; exact DataW.trod_lt m _ _ _ hm
  obtain ⟨i0, a0, m0, c0, z0, rfl, w0, n0⟩ := secz.open_sector (hval 0 57 v0 rfl rfl) h0
  clear hA0 hval0
  refine (walk i0 a0 m0 c0 z0 W w0 n0).mono fun e W' ⟨he, bel⟩ => ?_
  subst he
  exact ⟨_, rfl, _, _, _, [], _, [], hW', trodAll_mk1 (shut_bool Try.underlying4 _), (trodAll_cons_mk (Below.trod laidOut (by kernel_rfl) (of_decide_eq_true (by kernel_rfl)) k0 bel lt0) trodAll_mk0), rfl, bel.frame _, fun h => by cases h⟩

theorem over : Rows.fnExactSectorBoxRow.holds Try.pinned (OpenSpec.ofChange Rows.fnExactSectorBoxSpec) :=
  OpenClaim.holds_of_wide 10 Try.f10 rfl rfl rfl rfl rfl rfl rfl ⟨rfl, rfl, rfl, rfl, rfl⟩ rfl rfl rfl rfl rfl (by kernel_rfl) Try.func10 (by kernel_rfl)
    (of_decide_eq_true (by kernel_rfl)) (by unfold Func.isWrapper; first | (rw [if_pos (by decide +kernel)]; kernel_rfl) | (rw [if_neg (by decide +kernel)]; exact ⟨rfl, rfl⟩))
    (fun os started H enc _ => lifted os started H enc)

theorem proved : Rows.FnExactSectorBoxSaid :=
  over
#print axioms proved
end Go.Proofs.Ytadpihfegccpkaa.fnExactSectorBox
