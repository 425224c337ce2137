/- For every sector the law FnExactTurnedSector returns true: impl.TurnedSector and spec.TurnedSector return the same sector (the corners in the opposite order) and true, or none and false; the argument is left as it was, and the corners that are returned share no memory with it or with another call's. No condition. -/
import Derived.Test.YtadpihfegccpkaaRows
import Derived.Test.YtadpihfegccpkaaSctG
import Derived.Test.YtadpihfegccpkaaSctK
import Derived.Test.YtadpihfegccpkaaSecE
import Derived.Test.YtadpihfegccpkaaSecZ
import Derived.Test.YtadpihfegccpkaaPlcE
import Derived.Test.YtadpihfegccpkaaPosX
import Derived.Test.YtadpihfegccpkaaCode
import Derived.Test.YtadpihfegccpkaaIntC
import Derived.Test.YtadpihfegccpkaaLstO
import Derived.WalkKit
import Derived.ProofKit
import Derived.OpenShut
import Derived.ShutString
import Derived.ChangeOld
import Derived.Below
import Derived.Lib.SmallJoins
import Derived.Lib.QuietBelow
import Derived.Deep.RegionHeld3
import Derived.Deep.CutRange
namespace Go.Proofs.Ytadpihfegccpkaa.fnExactTurnedSector
open Go.ChangeShapes Go.WideShapes Go.ChangeAt Go.RowKit Go.Joins Go.Proofs.Ytadpihfegccpkaa.ats Go.Proofs.Ytadpihfegccpkaa.ints Go.Proofs.Ytadpihfegccpkaa.lst
set_option linter.unusedVariables false

theorem row_of {w : World} {B e s n c g : Nat} {A : Option Addr} {xs : List Value} (h : w.ownsRow B e s (.slice A n c) n xs) (hg : (Value.slice A n c).ownBlock = some g) : B ≤ g ∧ g < w.heap.size := ⟨own_.row_ge h g hg, own_row_lt h g hg⟩
theorem mark1 (B : Nat) (d : Int) (A : Option Addr) (n c : Nat) (xs : List Value) (w : World) (hk : 1 + n * 2 ≤ 16777216) (hB : B ≤ w.heap.size) (h : w.ownsRow B 28 2 (.slice A n c) n xs) :
    Calls Try.prog 53 #[.agg #[.int .i64 d, .slice A n c], .int .i64 1] w fun e w' => e = .returned (.int .i64 ((1 + n * 2 : Nat) : Int)) ∧ Below B w w' ∧ w.grownBy w' (Value.slice A n c).ownBlock ∧ w'.ownsRow B 28 2 (.slice A n c) n (cellsI (marksI 1 (n * 2))) :=
  sece.markSector B d A 1 n c xs w hk hB h
theorem held1 (d : Int) (A : Option Addr) (n c : Nat) (w : World) (hk : 1 + n * 2 ≤ 16777216) (h : RdZ 2 w w.heap.size A n (marksI 1 (n * 2))) :
    Calls Try.prog 54 #[.agg #[.int .i64 d, .slice A n c], .int .i64 1] w fun e w' => e = .returned (.int .i64 ((1 + n * 2 : Nat) : Int)) ∧ Below w.heap.size w w' :=
  sece.heldSector d A 1 n c w hk h
set_option maxRecDepth 100000 in
set_option maxHeartbeats 4000000 in
theorem walk (d : Int) (A : Option Addr) (n c : Nat) (zs : List Int) (w : World) (h : RdZ 2 w w.heap.size A n zs) (hl : n ≤ maxLen) :
    Calls Try.prog 11 #[.agg #[.int .i64 d, .slice A n c]] w fun e w' => e = .returned (.bool true) ∧ Below w.heap.size w w' := by
  have S0 := Lib.hid (newS 57 #[.int .i64 d, .slice A n c] w)
  by_cases hn : (n : Int) ≤ 1048576
  case neg =>
    have Z := fun w => sece.sz d A n c 1048576 w hl (by omega) (by omega)
    rw [if_neg hn] at Z
    have Z := Lib.hid Z
    clear h
    go_enter Try.func11, Try.ntmps11
    go_upto_region 2 with fail
    generalize w.alloc (.cells #[.int .i64 d, .slice A n c] 57) = W0 at *
    have b0 : W0.cell? ⟨w.heap.size, 0, none⟩ = some (.int .i64 d) := S0.out.cell 0
    have b1 : W0.cell? ⟨w.heap.size, 1, none⟩ = some (.slice A n c) := S0.out.cell 1
    go_wp2_with fail
    clear b0 b1
    refine (Z.out _).mono ?_
    rintro e V1 ⟨rfl, hb⟩
    have BX := Lib.hid (S0.out.old hb)
    clear hb
    go_wp2_with fail
    go_ret
    exact ⟨rfl, BX.out.1⟩
  have Z := fun w => sece.sz d A n c 1048576 w hl (by omega) (by omega)
  rw [if_pos hn] at Z
  have Z := Lib.hid Z
  have dz : decide ((1048576 : Int) - (n : Int) < 0) = false := decide_eq_false (by omega)
  have ez : ¬ (1048576 : Int) - (n : Int) < 0 := by omega
  have hn2 : n ≤ 1048576 := by omega
  have T := Lib.hid (fun (W : World) (hb : Below w.heap.size w W) => sece.toSector d zs A n c W hn2 (h.next hb))
  have HL := Lib.hid h.1
  have CS := Lib.hid (fun (W : World) (g : Nat) (h : RdZ 2 W W.heap.size (some ⟨g, 0, none⟩) n zs) => sctk.turnedSector d zs (some ⟨g, 0, none⟩) n n W hn2 h)
  have CI := Lib.hid (fun (W : World) (g : Nat) (h : RdZ 2 W W.heap.size (some ⟨g, 0, none⟩) n zs) => sctg.turnedSector d zs (some ⟨g, 0, none⟩) n n W (Nat.le_refl _) hn2 h)
  have HTL := Lib.hid (sctl.tu_len d zs n)
  have HTN := sctl.tuN_le d zs n
  generalize sctl.tuV d zs n = V at *
  generalize sctl.tuN d zs n = N at *
  generalize sctl.tuD d zs n = D at *
  generalize sctr.seV d zs n = q0 at *
  have ne0 : (q0 != q0) = false := by simp
  have EX := Lib.hid (fun (W : World) (g g' : Nat) (h : RdZ 2 W W.heap.size (some ⟨g, 0, none⟩) n zs) (h' : RdZ 2 W W.heap.size (some ⟨g', 0, none⟩) n zs) => sece.eqSector d zs (some ⟨g, 0, none⟩) (some ⟨g', 0, none⟩) n n n W (by omega) h h')
  have ER := Lib.hid (fun (A C : Option Addr) (c q : Nat) (W : World) (h : RdZ 2 W W.heap.size A N V) (h' : RdZ 2 W W.heap.size C N V) => sece.eqSector D V A C N c q W (by omega) h h')
  clear h
  generalize (1048576 : Int) - (n : Int) = v0 at *
  go_enter Try.func11, Try.ntmps11
  go_upto_region 2 with fail
  generalize w.alloc (.cells #[.int .i64 d, .slice A n c] 57) = W0 at *
  have b0 : W0.cell? ⟨w.heap.size, 0, none⟩ = some (.int .i64 d) := S0.out.cell 0
  have b1 : W0.cell? ⟨w.heap.size, 1, none⟩ = some (.slice A n c) := S0.out.cell 1
  go_wp2_with fail
  clear b0 b1
  refine (Z.out _).mono ?_
  rintro e V1 ⟨rfl, hb⟩
  have SA := Lib.hid (S0.out.old hb)
  clear hb S0
  have b0 : V1.cell? ⟨w.heap.size, 0, none⟩ = some (.int .i64 d) := SA.out.cell 0
  have b1 : V1.cell? ⟨w.heap.size, 1, none⟩ = some (.slice A n c) := SA.out.cell 1
  go_wp2_with fail
  clear b0 b1
  refine (T.out V1 SA.out.1).mono ?_
  rintro e V2 ⟨gs, rfl, ho, hb⟩
  have RS := Lib.hid (RdZ.of_own ho HL.out)
  have SB := Lib.hid (SA.out.old hb)
  clear ho hb SA
  go_wp2_with fail
  refine (CS.out V2 gs RS.out).mono ?_
  rintro e V3 ⟨v, rfl, ho, hb⟩
  obtain ⟨Aw, cw, rfl⟩ := own_sliceZ ho
  have SC := Lib.hid (SB.out.old hb)
  have OW3 := Lib.hid ho
  clear ho hb RS SB
  have XW := Lib.hid (newS 26 #[.int .i64 D, .slice Aw N cw] V3)
  go_upto_region 6 with fail
  generalize V3.alloc (.cells #[.int .i64 D, .slice Aw N cw] 26) = V4 at *
  have SD := Lib.hid (SC.out.old XW.out.1)
  have OW4 := Lib.hid (own_.own_below OW3.out XW.out.1)
  clear SC OW3
  have b0 : V4.cell? ⟨w.heap.size, 0, none⟩ = some (.int .i64 d) := SD.out.cell 0
  have b1 : V4.cell? ⟨w.heap.size, 1, none⟩ = some (.slice A n c) := SD.out.cell 1
  go_wp2_with fail
  clear b0 b1
  refine (T.out V4 SD.out.1).mono ?_
  rintro e V5 ⟨gx, rfl, ho, hb⟩
  have OX5 := Lib.hid ho
  have A5 := Lib.hid hb
  clear ho hb
  have XX := Lib.hid (newS 26 #[.int .i64 d, .slice (some ⟨gx, 0, none⟩) n n] V5)
  go_upto_region 7 with fail
  generalize V5.alloc (.cells #[.int .i64 d, .slice (some ⟨gx, 0, none⟩) n n] 26) = V6 at *
  have OX6 := Lib.hid (own_.own_below OX5.out XX.out.1)
  have A6 := Lib.hid (A5.out.trans (XX.out.1.mono A5.out.size))
  have RX6 := Lib.hid (RdZ.of_own OX6.out HL.out)
  have x0 : V6.cell? ⟨V5.heap.size, 0, none⟩ = some (.int .i64 d) := XX.out.cell 0
  have x1 : V6.cell? ⟨V5.heap.size, 1, none⟩ = some (.slice (some ⟨gx, 0, none⟩) n n) := XX.out.cell 1
  go_wp2_with fail
  clear x0 x1
  refine (CI.out V6 gx RX6.out).mono ?_
  rintro e V7 ⟨v, rfl, ho, hb⟩
  obtain ⟨Ag, cg, rfl⟩ := own_sliceZ ho
  have OG7 := Lib.hid ho
  have A7 := Lib.hid (A6.out.trans (hb.mono A6.out.size))
  have OX7 := Lib.hid (own_.own_below OX6.out hb)
  have XX7 := Lib.hid (XX.out.old hb)
  have LE67 := Lib.hid hb.size
  clear ho hb
  have XG := Lib.hid (newS 26 #[.int .i64 D, .slice Ag N cg] V7)
  go_upto_region 8 with fail
  generalize V7.alloc (.cells #[.int .i64 D, .slice Ag N cg] 26) = V8 at *
  have OG8 := Lib.hid (own_.own_below OG7.out XG.out.1)
  have OX8 := Lib.hid (own_.own_below OX7.out XG.out.1)
  have XX8 := Lib.hid (XX7.out.old XG.out.1)
  have A8 := Lib.hid (A7.out.trans (XG.out.1.mono A7.out.size))
  have W8 := Lib.hid (XW.out.old A8.out)
  have OW8 := Lib.hid (own_.own_below OW4.out A8.out)
  have g0 : V8.cell? ⟨V7.heap.size, 0, none⟩ = some (.int .i64 D) := XG.out.cell 0
  have g1 : V8.cell? ⟨V7.heap.size, 1, none⟩ = some (.slice Ag N cg) := XG.out.cell 1
  have w0 : V8.cell? ⟨V3.heap.size, 0, none⟩ = some (.int .i64 D) := W8.out.cell 0
  have w1 : V8.cell? ⟨V3.heap.size, 1, none⟩ = some (.slice Aw N cw) := W8.out.cell 1
  go_wp2_with fail
  clear g0 g1 w0 w1
  refine (ER.out _ _ _ _ V8 (RdZ.of_own OG8.out HTL.out) (RdZ.of_own OW8.out HTL.out)).mono ?_
  rintro e V9 ⟨rfl, hb⟩
  have A9 := Lib.hid (A8.out.trans (hb.mono A8.out.size))
  have OG9 := Lib.hid (own_.own_below OG8.out hb)
  have OX9 := Lib.hid (own_.own_below OX8.out hb)
  have RX9 := Lib.hid (RdZ.of_own OX9.out HL.out)
  have XX9 := Lib.hid (XX8.out.old hb)
  have XG9 := Lib.hid (XG.out.old hb)
  have S9 := Lib.hid (SD.out.old A9.out)
  clear hb
  have CSr := Lib.hid (show ∀ WZ : World, Below V9.heap.size V9 WZ → World.cell? WZ ⟨w.heap.size, 0, none⟩ = some (.int .i64 d) ∧ World.cell? WZ ⟨w.heap.size, 1, none⟩ = some (.slice A n c) ∧ World.cell? WZ ⟨V5.heap.size, 0, none⟩ = some (.int .i64 d) ∧ World.cell? WZ ⟨V5.heap.size, 1, none⟩ = some (.slice (some ⟨gx, 0, none⟩) n n) from fun WZ hz => ⟨(S9.out.old hz).cell 0, (S9.out.old hz).cell 1, (XX9.out.old hz).cell 0, (XX9.out.old hz).cell 1⟩)
  have TR := Lib.hid (fun (U : World) (hb : Below V9.heap.size V9 U) => T.out U (S9.out.1.trans (hb.mono S9.out.1.size)))
  go_upto_region 10 with fail
  go_cut [45] from 41 to 45 (fun s wz => s = .bool false ∧ Below V9.heap.size V9 wz)
  case first =>
    go_region_held3 (fun w' => World.cell? w' ⟨w.heap.size, 0, none⟩ = some (.int .i64 d) ∧ World.cell? w' ⟨w.heap.size, 1, none⟩ = some (.slice A n c) ∧ World.cell? w' ⟨V5.heap.size, 0, none⟩ = some (.int .i64 d) ∧ World.cell? w' ⟨V5.heap.size, 1, none⟩ = some (.slice (some ⟨gx, 0, none⟩) n n)) (first
      | with_reducible exact CSr.out _ (Below.refl V9.heap.size V9).drew
      | with_reducible exact CSr.out _ (by assumption)
      | go_keep) (first
        | (go_at_call 41; (with_reducible refine (TR.out _ (by first | exact (Below.refl V9.heap.size V9).drew | assumption)).mono ?_); rintro e U0 ⟨g0, rfl, ho0, hb0⟩
           have hbl0 := posx.bl_next (V := V9) (by first | exact (Below.refl V9.heap.size V9).drew | assumption) hb0
           have R0 := RdZ.of_own ho0 HL.out
           clear ho0)
        | (go_at_call 42; (with_reducible refine (EX.out _ gx g0 (RX9.out.next hbl0) R0).mono ?_); rintro e U1 ⟨rfl, hb1⟩
           have hbl1 := posx.bl_next (V := V9) hbl0 hb1))
    all_goals (
      go_wp2_with fail
      go_meet
      exact ⟨rfl, hbl1⟩)
  case rest =>
    obtain ⟨rfl, hb⟩ := hcut
    generalize wc = V10 at *
    have A10 := Lib.hid (A9.out.trans (hb.mono A9.out.size))
    have OG10 := Lib.hid (own_.own_below OG9.out hb)
    have OX10 := Lib.hid (own_.own_below OX9.out hb)
    have XX10 := Lib.hid (XX9.out.old hb)
    have XG10 := Lib.hid (XG9.out.old hb)
    clear hb CSr TR
    have GX := Lib.hid (show V4.heap.size ≤ gx ∧ gx < V5.heap.size from row_of OX5.out rfl)
    have LE57 := Lib.hid (show V5.heap.size < V6.heap.size from XX.out.2.2.1)
    have NG := Lib.hid (fun g (e : (Value.slice Ag N cg).ownBlock = some g) => show V6.heap.size ≤ g ∧ g < V7.heap.size from row_of OG7.out e)
    have x0 : V10.cell? ⟨V5.heap.size, 0, none⟩ = some (.int .i64 d) := XX10.out.cell 0
    have x1 : V10.cell? ⟨V5.heap.size, 1, none⟩ = some (.slice (some ⟨gx, 0, none⟩) n n) := XX10.out.cell 1
    go_wp2_with fail
    clear x0 x1
    refine (mark1 V4.heap.size d (some ⟨gx, 0, none⟩) n n _ V10 (by omega) A10.out.size OX10.out).mono ?_
    rintro e V11 ⟨rfl, hb, hg, -⟩
    have A11 := Lib.hid (A10.out.trans hb)
    have OG11 := Lib.hid (own_kept_at OG10.out hg (fun g e h => by have h1 := (NG.out g e).1; have h2 : gx = g := Option.some.inj h; have := GX.out; have := LE57.out; omega))
    have cg0 := hg.cell (XG10.out.cell 0 : V10.cell? ⟨V7.heap.size, 0, none⟩ = some (.int .i64 D)) (fun e => by have h2 : V7.heap.size = gx := Option.some.inj e; have := GX.out; have := LE57.out; have := LE67.out; omega)
    have cg1 := hg.cell (XG10.out.cell 1 : V10.cell? ⟨V7.heap.size, 1, none⟩ = some (.slice Ag N cg)) (fun e => by have h2 : V7.heap.size = gx := Option.some.inj e; have := GX.out; have := LE57.out; have := LE67.out; omega)
    have L11 := Lib.hid (World.block_lt_of_cell? _ _ cg0)
    have G0 := Lib.hid cg0
    have G1 := Lib.hid cg1
    clear hb hg cg0 cg1 XG10 OX10 XX10
    have W11 := Lib.hid (XW.out.old A11.out)
    have OW11 := Lib.hid (own_.own_below OW4.out A11.out)
    have dk : decide (((1 + n * 2 : Nat) : Int) < 0) = false := decide_eq_false (by omega)
    have ek : ¬ ((1 + n * 2 : Nat) : Int) < 0 := by omega
    generalize hK1 : 1 + n * 2 = K1 at *
    have g0 : V11.cell? ⟨V7.heap.size, 0, none⟩ = some (.int .i64 D) := G0.out
    have g1 : V11.cell? ⟨V7.heap.size, 1, none⟩ = some (.slice Ag N cg) := G1.out
    have w0 : V11.cell? ⟨V3.heap.size, 0, none⟩ = some (.int .i64 D) := W11.out.cell 0
    have w1 : V11.cell? ⟨V3.heap.size, 1, none⟩ = some (.slice Aw N cw) := W11.out.cell 1
    clear hK1
    go_wp2_with fail
    clear g0 g1 w0 w1
    refine (ER.out _ _ _ _ V11 (RdZ.of_own OG11.out HTL.out) (RdZ.of_own OW11.out HTL.out)).mono ?_
    rintro e V12 ⟨rfl, hb⟩
    have A12 := Lib.hid (A11.out.trans (hb.mono A11.out.size))
    have OG12 := Lib.hid (own_.own_below OG11.out hb)
    have G0b := Lib.hid ((hb.cell (p := ⟨V7.heap.size, 0, none⟩) L11.out).trans G0.out)
    have G1b := Lib.hid ((hb.cell (p := ⟨V7.heap.size, 1, none⟩) L11.out).trans G1.out)
    clear hb dk ek
    have g0 : V12.cell? ⟨V7.heap.size, 0, none⟩ = some (.int .i64 D) := G0b.out
    have g1 : V12.cell? ⟨V7.heap.size, 1, none⟩ = some (.slice Ag N cg) := G1b.out
    have L12 := Lib.hid (World.block_lt_of_cell? _ _ g0)
    go_wp2_with fail
    clear g0 g1
    refine (mark1 V6.heap.size D Ag N cg _ V12 (by omega) (by have := L12.out; have := LE67.out; exact Nat.le_trans LE67.out (Nat.le_of_lt L12.out)) OG12.out).mono ?_
    rintro e V13 ⟨rfl, hb, hg, ho⟩
    have A13 := Lib.hid (A12.out.trans (hb.mono A6.out.size))
    have OM := Lib.hid ho
    have RM := Lib.hid (plce.marks_rd ho)
    have cg0 := hg.cell G0b.out (fun e => by have := (NG.out _ e.symm).2; simp at this)
    have cg1 := hg.cell G1b.out (fun e => by have := (NG.out _ e.symm).2; simp at this)
    have G0c := Lib.hid cg0
    have G1c := Lib.hid cg1
    have L13 := Lib.hid (World.block_lt_of_cell? _ _ cg0)
    clear hb hg ho cg0 cg1
    have HH := Lib.hid (fun (W : World) (h : RdZ 2 W W.heap.size Ag N (marksI 1 (N * 2))) => held1 D Ag N cg W (by omega) h)
    have dk : decide (((1 + N * 2 : Nat) : Int) < 0) = false := decide_eq_false (by omega)
    have ek : ¬ ((1 + N * 2 : Nat) : Int) < 0 := by omega
    have kk : ((((1 + N * 2 : Nat) : Int)) != ((1 + N * 2 : Nat) : Int)) = false := by simp
    generalize hK2 : 1 + N * 2 = K2 at *
    clear hK2
    have g0 : V13.cell? ⟨V7.heap.size, 0, none⟩ = some (.int .i64 D) := G0c.out
    have g1 : V13.cell? ⟨V7.heap.size, 1, none⟩ = some (.slice Ag N cg) := G1c.out
    go_wp2_with fail
    clear g0 g1
    refine (HH.out V13 RM.out).mono ?_
    rintro e V14 ⟨rfl, hb⟩
    have A14 := Lib.hid (A13.out.trans (hb.mono A13.out.size))
    have RM14 := Lib.hid (RM.out.next hb)
    have G0d := Lib.hid ((hb.cell (p := ⟨V7.heap.size, 0, none⟩) L13.out).trans G0c.out)
    have G1d := Lib.hid ((hb.cell (p := ⟨V7.heap.size, 1, none⟩) L13.out).trans G1c.out)
    have S14 := Lib.hid (SD.out.old A14.out)
    clear hb
    have b0 : V14.cell? ⟨w.heap.size, 0, none⟩ = some (.int .i64 d) := S14.out.cell 0
    have b1 : V14.cell? ⟨w.heap.size, 1, none⟩ = some (.slice A n c) := S14.out.cell 1
    have L14 := Lib.hid (World.block_lt_of_cell? _ _ G0d.out)
    go_wp2_with fail
    clear b0 b1
    refine (T.out V14 S14.out.1).mono ?_
    rintro e V15 ⟨gy, rfl, ho, hb⟩
    have RY := Lib.hid (RdZ.of_own ho HL.out)
    have F15 := Lib.hid hb
    clear ho hb
    go_wp2_with fail
    refine (CI.out V15 gy RY.out).mono ?_
    rintro e V16 ⟨v, rfl, ho, hb⟩
    obtain ⟨Ah, ch, rfl⟩ := own_sliceZ ho
    have OH := Lib.hid ho
    have F16 := Lib.hid (F15.out.trans (hb.mono F15.out.size))
    clear ho hb
    have XH := Lib.hid (newS 26 #[.int .i64 D, .slice Ah N ch] V16)
    go_upto_region 25 with fail
    generalize V16.alloc (.cells #[.int .i64 D, .slice Ah N ch] 26) = V17 at *
    have F17 := Lib.hid (F16.out.trans (XH.out.1.mono F16.out.size))
    have OH17 := Lib.hid (own_.own_below OH.out XH.out.1)
    have A17 := Lib.hid (A14.out.trans (F17.out.mono A14.out.size))
    have W17 := Lib.hid (XW.out.old A17.out)
    have OW17 := Lib.hid (own_.own_below OW4.out A17.out)
    have h0 : V17.cell? ⟨V16.heap.size, 0, none⟩ = some (.int .i64 D) := XH.out.cell 0
    have h1 : V17.cell? ⟨V16.heap.size, 1, none⟩ = some (.slice Ah N ch) := XH.out.cell 1
    have w0 : V17.cell? ⟨V3.heap.size, 0, none⟩ = some (.int .i64 D) := W17.out.cell 0
    have w1 : V17.cell? ⟨V3.heap.size, 1, none⟩ = some (.slice Aw N cw) := W17.out.cell 1
    go_wp2_with fail
    clear h0 h1 w0 w1
    refine (ER.out _ _ _ _ V17 (RdZ.of_own OH17.out HTL.out) (RdZ.of_own OW17.out HTL.out)).mono ?_
    rintro e V18 ⟨rfl, hb⟩
    have F18 := Lib.hid (F17.out.trans (hb.mono F17.out.size))
    have RM18 := Lib.hid (RM14.out.next F18.out)
    have G0e := Lib.hid ((F18.out.cell (p := ⟨V7.heap.size, 0, none⟩) L14.out).trans G0d.out)
    have G1e := Lib.hid ((F18.out.cell (p := ⟨V7.heap.size, 1, none⟩) L14.out).trans G1d.out)
    have S18 := Lib.hid (S14.out.old F18.out)
    clear hb
    have g0 : V18.cell? ⟨V7.heap.size, 0, none⟩ = some (.int .i64 D) := G0e.out
    have g1 : V18.cell? ⟨V7.heap.size, 1, none⟩ = some (.slice Ag N cg) := G1e.out
    go_wp2_with fail
    clear g0 g1
    refine (HH.out V18 RM18.out).mono ?_
    rintro e V19 ⟨rfl, hb⟩
    have S19 := Lib.hid (S18.out.old hb)
    clear hb
    go_wp2_with fail
    go_ret
    exact ⟨rfl, S19.out.1⟩

theorem own : ownKnob Try.prog.godebug = none := by kernel_rfl
theorem laidOut : laidOutB Try.prog = true := by kernel_rfl

set_option maxRecDepth 100000 in
theorem lifted (os : Os) (started : os.Started) (H : Type) (enc : TypeId × Value → H) :
    ReturnsInHanded {} Try.checked os 11 .any (Rows.fnExactTurnedSectorSpec.pre6 enc Try.prog Try.f11 Rows.fnExactTurnedSectorRow.domain false) (Rows.fnExactTurnedSectorSpec.post enc Try.prog Try.f11 false true false false) := by
  refine returnsInHanded_of_change (C := Try.checked) own started (by kernel_rfl) Try.func11
    (ChangeSpec.witness6 (enc := enc) (C := Try.checked) false ⟨#[], #[.agg #[.int .i64 0, .slice none 0 0]], []⟩ 8 (by kernel_rfl) (by kernel_rfl) (by kernel_rfl) (by kernel_rfl)) ?_
  intro W base args ds gs before hval0 hW hcnd _
  have hval : ∀ (j : Nat) t v, Try.f11.params[j]? = some t → args[j]? = some v → Value.okWide Try.prog W .any base t v := hval0
  have hW' := hW
  obtain ⟨p, q, hA0, hV, rfl, hfz, hnd⟩ := hW
  have hA : DataW.TrodAll enc Try.prog W 0 (fun _ => true) true Try.f11.params.toList args.toList ds p := hA0
  rw [Try.params11] at hA hval
  obtain ⟨v0, vs0, d0, ds0, p0, q0, hargs, rfl, rfl, h0, r0⟩ := trodAll_cons hA
  obtain ⟨rfl, rfl, rfl⟩ := trodAll_nil r0
  obtain rfl : args = #[v0] := by cases args; simp_all
  obtain ⟨rfl, rfl⟩ := trodVars_none hV
  have k0 := h0
  have lt0 : ∀ x ∈ p0, x.block < W.heap.size := by obtain ⟨m, hm⟩ := k0; exact DataW.trod_lt m _ _ _ hm
  obtain ⟨i0, a0, m0, c0, z0, rfl, w0, n0⟩ := secz.open_sector (hval 0 57 v0 rfl rfl) h0
  clear hA0 hval0
  refine (walk i0 a0 m0 c0 z0 W w0 n0).mono fun e W' ⟨he, bel⟩ => ?_
  subst he
  exact ⟨_, rfl, _, _, _, [], _, [], hW', trodAll_mk1 (shut_bool Try.underlying4 _), (trodAll_cons_mk (Below.trod laidOut (by kernel_rfl) (of_decide_eq_true (by kernel_rfl)) k0 bel lt0) trodAll_mk0), rfl, bel.frame _, fun h => by cases h⟩

theorem over : Rows.fnExactTurnedSectorRow.holds Try.pinned (OpenSpec.ofChange Rows.fnExactTurnedSectorSpec) :=
  OpenClaim.holds_of_wide 11 Try.f11 rfl rfl rfl rfl rfl rfl rfl ⟨rfl, rfl, rfl, rfl, rfl⟩ rfl rfl rfl rfl rfl (by kernel_rfl) Try.func11 (by kernel_rfl)
    (of_decide_eq_true (by kernel_rfl)) (by unfold Func.isWrapper; first | (rw [if_pos (by decide +kernel)]; kernel_rfl) | (rw [if_neg (by decide +kernel)]; exact ⟨rfl, rfl⟩))
    (fun os started H enc _ => lifted os started H enc)

theorem proved : Rows.FnExactTurnedSectorSaid :=
  over
#print axioms proved
end Go.Proofs.Ytadpihfegccpkaa.fnExactTurnedSector
