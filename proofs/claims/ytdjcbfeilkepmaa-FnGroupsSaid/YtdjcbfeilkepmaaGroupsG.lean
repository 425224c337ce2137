/- For every code of at most 65536 bytes (and trivially for a longer one) the law FnGroups returns true: the groups and plots are those of the model, every plot is valid, the plots have as many sites as there are sightings, sightings of a group are of different sites, of the same aircraft and at most the window apart, a group spreads over at most twice the reach, and the spread of a group is the model's. No condition of mine. -/
import Derived.Test.YtdjcbfeilkepmaaRows
import Derived.Test.YtdjcbfeilkepmaaDrawS13
import Derived.Test.YtdjcbfeilkepmaaPltL
import Derived.Test.YtdjcbfeilkepmaaPltH
import Derived.Test.YtdjcbfeilkepmaaPltN
import Derived.Test.YtdjcbfeilkepmaaPltT
import Derived.Test.YtdjcbfeilkepmaaPltC
import Derived.Test.YtdjcbfeilkepmaaPltU
import Derived.Test.YtdjcbfeilkepmaaPltX
import Derived.Test.YtdjcbfeilkepmaaPltY
import Derived.Test.YtdjcbfeilkepmaaRPl
import Derived.WalkKit
import Derived.ProofKit
import Derived.OpenShut
import Derived.ShutString
import Derived.ChangeOld
import Derived.Below
import Derived.BigQuiet
import Derived.Deep.QuietTactic
import Derived.Deep.RegionHeld3
import Derived.Deep.CutRange
import Derived.Deep.CutBlock
namespace Go.Proofs.Ytdjcbfeilkepmaa.fnGroups
open Go.ChangeShapes Go.WideShapes Go.ChangeAt Go.RowKit
open Go.ChangeMaps (open_string shut_string)
open Go.Proofs.Ytdjcbfeilkepmaa.code_ Go.Proofs.Ytdjcbfeilkepmaa.cur Go.Proofs.Ytdjcbfeilkepmaa.ats Go.Proofs.Ytdjcbfeilkepmaa.lst Go.Proofs.Ytdjcbfeilkepmaa.ints Go.Proofs.Ytdjcbfeilkepmaa.in_ Go.Proofs.Ytdjcbfeilkepmaa.plt Go.Proofs.Ytdjcbfeilkepmaa.pltm Go.Proofs.Ytdjcbfeilkepmaa.pltn0 Go.Proofs.Ytdjcbfeilkepmaa.pltc
set_option linter.unusedVariables false

theorem bool_ne_self (b : Bool) : (b != b) = false := by simp
theorem int_ne_self (b : Int) : (b != b) = false := by simp
theorem bool_eq_self (b : Bool) : (b == b) = true := by simp
theorem int_eq_self (b : Int) : (b == b) = true := by simp

/-- How many sites the first k groups have. -/
def smL (G : List (List Nat)) (k : Nat) : Nat := ((G.take k).map List.length).sum
theorem smL_next {G : List (List Nat)} {k : Nat} {q : List Nat} (h : G[k]? = some q) : smL G (k + 1) = smL G k + q.length := by
  unfold smL
  rw [List.take_add_one, h]
  simp
theorem smL_all (G : List (List Nat)) : smL G G.length = (G.map List.length).sum := by unfold smL; rw [List.take_length]
theorem gg_ok {zs : List Int} {n g : Nat} {w r : Int} {q : List Nat} (hq : (ggV zs n w r)[g]? = some q) : plB (plS zs q) (plA zs q) (plX zs q) (plY zs q) (plL zs q) q.length = true ∧ q.length ≤ 9 := by
  cases h : asB zs n w r
  · rw [ggV_no h] at hq; simp at hq
  · rw [ggV_yes h] at hq
    have h1 := plot_ok (asB_yes h).1 hq
    obtain ⟨-, -, -, h2, -⟩ := plB_yes h1
    exact ⟨h1, h2.2⟩
theorem smL_le {zs : List Int} {n : Nat} {w r : Int} : ∀ k, k ≤ (ggV zs n w r).length → smL (ggV zs n w r) k ≤ 9 * k := by
  intro k
  induction k with
  | zero => intro _; exact Nat.le_refl _
  | succ k ih =>
    intro hk
    obtain ⟨q, hq⟩ : ∃ q, (ggV zs n w r)[k]? = some q := ⟨_, List.getElem?_eq_getElem (by omega)⟩
    rw [smL_next hq]
    have := ih (by omega)
    have := (gg_ok hq).2
    omega
theorem gg_len (zs : List Int) (n : Nat) (w r : Int) : (ggV zs n w r).length ≤ n := by
  unfold ggV
  split
  · exact grp_len ..
  · exact Nat.zero_le _
theorem gg_tot {zs : List Int} {n : Nat} {w r : Int} (h : asB zs n w r = true) : smL (ggV zs n w r) (ggV zs n w r).length = n := by
  rw [smL_all, ggV_yes h, grp_tot]
theorem gs_yes {zs : List Int} {n i : Nat} {w r : Int} (hi : i < (gsV zs n w r).length) : asB zs n w r = true ∧ i < n ∧ (gsV zs n w r)[i]? = some ((num zs w r i : Nat) : Int) := by
  cases h : asB zs n w r
  · rw [gsV_no h] at hi; simp at hi
  · rw [gsV_yes h] at hi ⊢
    rw [gsT_length] at hi
    refine ⟨rfl, hi, ?_⟩
    unfold gsT
    rw [List.getElem?_map, List.getElem?_range hi]; rfl
theorem gs_same {zs : List Int} {n i k : Nat} {w r : Int} (hki : k < i) (hi : i < (gsV zs n w r).length) :
    ∃ u v : Int, (gsV zs n w r)[k]? = some u ∧ (gsV zs n w r)[i]? = some v ∧ k < n ∧ i < n ∧ (u = v → fld 5 zs k 1 ≠ fld 5 zs i 1 ∧ fld 5 zs k 2 = fld 5 zs i 2 ∧ fld 5 zs i 0 - fld 5 zs k 0 ≤ w ∧ (0 ≤ fld 5 zs k 0 ∧ fld 5 zs k 0 ≤ 86400) ∧ (0 ≤ fld 5 zs i 0 ∧ fld 5 zs i 0 ≤ 86400)) := by
  obtain ⟨h, h1, h2⟩ := gs_yes hi
  obtain ⟨-, h3, h4⟩ := gs_yes (zs := zs) (n := n) (w := w) (r := r) (i := k) (by omega)
  refine ⟨_, _, h4, h2, h3, h1, fun e => ?_⟩
  obtain ⟨hs, hw, hr⟩ := asB_yes h
  obtain ⟨e1, e2, e3⟩ := same_group (w := w) (r := r) hs hki h1 (by omega)
  exact ⟨e1, e2, e3 hw.1, (sv_at hs h3).1, (sv_at hs h1).1⟩
theorem gs_spread {zs : List Int} {n i : Nat} {w r : Int} (hi : i < (gsV zs n w r).length) :
    ∃ g : Int, (gsV zs n w r)[i]? = some g ∧ spB zs n w r g = true ∧ ¬ 2 * r < spV zs n w r g 3 ∧ ¬ 2 * r < spV zs n w r g 4 ∧ 0 ≤ r ∧ r ≤ 1000 := by
  obtain ⟨h, h1, h2⟩ := gs_yes hi
  obtain ⟨hs, hw, hr⟩ := asB_yes h
  have hl := num_lt (zs := zs) (w := w) (r := r) i h1
  have hq : (grp zs w r n)[num zs w r i]? = some ((grp zs w r n).getD (num zs w r i) []) := by
    rw [List.getD_eq_getElem?_getD, List.getElem?_eq_getElem hl]; rfl
  have hb : spB zs n w r ((num zs w r i : Nat) : Int) = true := by
    unfold spB
    rw [h, isIn_of (by omega) (by omega)]; rfl
  obtain ⟨s1, s2⟩ := sd_small hr.1 hq
  refine ⟨_, h2, hb, ?_, ?_, hr.1, hr.2⟩
  · rw [spV_yes hb, Int.toNat_natCast]; omega
  · rw [spV_yes hb, Int.toNat_natCast]; omega
theorem eq_no {x y : Int} (h : x ≠ y) : (x == y) = false := by simpa using h

set_option maxRecDepth 100000 in
set_option maxHeartbeats 16000000 in
theorem walk (A : Option Addr) (n c : Nat) (z : List Int) (w : World) (w0 : IsRow .u8 w A n c z) :
    Calls Try.prog 4 #[.slice A n c] w fun e w' => e = .returned (.bool true) ∧ Below w.heap.size w w' := by
  obtain ⟨hby, hnc, -⟩ := bytes_of w0
  clear w0
  have hv := Lib.hid (fun w => rBig A n c w)
  by_cases hbig : (65536 : Int) < (n : Int)
  · clear hby
    go_enter Try.func4, Try.ntmps4
    go_wp2_with fail
    refine (hv.out _).mono ?_
    rintro e w1 ⟨rfl, rfl⟩
    go_wp2_with fail
    go_ret
    exact ⟨rfl, Below.refl _ _⟩
  have hd : decide ((65536 : Int) < (n : Int)) = false := by simpa using hbig
  have hn : n ≤ 65536 := by omega
  have H := Lib.hid hby
  clear hby hbig hnc
  go_enter Try.func4, Try.ntmps4
  go_wp2_with fail
  refine (hv.out _).mono ?_
  rintro e wx ⟨rfl, rfl⟩
  clear hd hv
  have AN1 := Lib.hid (Below.refl w.heap.size w)
  go_wp2_with fail
  refine (draws13.groupSightings A n c w hn (Bytes_below H.out AN1.out)).mono ?_
  rintro e V1 ⟨vl, n1, zs, ww, r, rfl, ho1, hn21, hww, hrr, h1⟩
  obtain ⟨A1, c1, rfl⟩ := own_sliceZ ho1
  have AN2 := Lib.hid (AN1.out.trans (h1.mono AN1.out.size))
  clear AN1
  have R1 := Lib.hid (RdZ.of_own ho1 (draws13.own_len ho1))
  clear ho1 h1
  have AN3 := Lib.hid (Below.refl V1.heap.size V1)
  clear hww hrr
  go_wp2_with fail
  refine (pltl.groupSightings zs ww r A1 n1 c1 V1 (by omega) (R1.out.next AN3.out)).mono ?_
  rintro e V4 ⟨va, rfl, ho6, h5⟩
  obtain ⟨Aa, ca, rfl⟩ := own_sliceZ ho6
  have AN7 := Lib.hid (AN2.out.trans (h5.mono AN2.out.size))
  clear AN2
  have AN8 := Lib.hid (AN3.out.trans (h5.mono AN3.out.size))
  clear AN3
  have Ra := Lib.hid (intc.rd_of_own ho6 rfl)
  clear ho6 h5
  have AN9 := Lib.hid (Below.refl V4.heap.size V4)
  go_wp2_with fail
  refine (plth.groupSightings zs ww r A1 n1 c1 V4 (by omega) (R1.out.next AN8.out)).mono ?_
  rintro e V10 ⟨vb, rfl, ho12, h11⟩
  obtain ⟨Ab, cb, rfl⟩ := own_sliceZ ho12
  have AN13 := Lib.hid (AN7.out.trans (h11.mono AN7.out.size))
  clear AN7
  have AN14 := Lib.hid (AN8.out.trans (h11.mono AN8.out.size))
  clear AN8
  have AN15 := Lib.hid (AN9.out.trans (h11.mono AN9.out.size))
  clear AN9
  have Rb := Lib.hid (intc.rd_of_own ho12 rfl)
  clear ho12 h11
  have AN16 := Lib.hid (Below.refl V10.heap.size V10)
  have FG := Lib.hid (fun g q (hq : (ggV zs n1 ww r)[g]? = some q) => gg_ok hq)
  have FT := Lib.hid (fun (h : asB zs n1 ww r = true) => gg_tot h)
  have FL := Lib.hid (fun k (hk : k ≤ (ggV zs n1 ww r).length) => smL_le k hk)
  have HGN := Lib.hid (gg_len zs n1 ww r)
  have FS := Lib.hid (fun k i (hki : k < i) (hi : i < (gsV zs n1 ww r).length) => gs_same hki hi)
  have FP := Lib.hid (fun i (hi : i < (gsV zs n1 ww r).length) => gs_spread hi)
  have HML := Lib.hid (gsV_le zs n1 ww r)
  have PI := Lib.hid (fun W h => pltn.plotsOf zs ww r A1 n1 c1 W (by omega) h)
  have PS := Lib.hid (fun W h => pltt.plotsOf zs ww r A1 n1 c1 W (by omega) h)
  have SI := Lib.hid (fun g W h => pltx.spreadOf zs ww r g A1 n1 c1 W (by omega) h)
  have ne1 := bool_ne_self (asB zs n1 ww r)
  generalize asB zs n1 ww r = O at *
  generalize gsV zs n1 ww r = gs at *
  generalize ggV zs n1 ww r = G at *
  have ne2 := int_ne_self (G.length : Int)
  have E1 := Lib.hid (rpl.rInts gs Aa Ab gs.length ca cb V10 (by have := HML.out; omega) (Ra.out.next AN15.out) (Rb.out.next AN16.out))
  go_wp2_with fail
  refine (E1.out).mono ?_
  rintro e wx ⟨rfl, j17, rfl⟩
  have AN19 := Lib.hid (aid.below_drewN AN13.out j17)
  clear AN13
  have AN20 := Lib.hid (aid.below_drewN AN14.out j17)
  clear AN14
  have AN21 := Lib.hid (aid.below_drewN AN15.out j17)
  clear AN15
  have AN22 := Lib.hid (aid.below_drewN AN16.out j17)
  clear AN16
  generalize V10.drewN j17 = V18 at *
  clear AN22
  clear Rb E1
  go_wp2_with fail
  refine (PI.out V18 (R1.out.next AN20.out)).mono ?_
  rintro e V23 ⟨vp, rfl, ho25, h24⟩
  obtain ⟨Ap, cp, rfl⟩ := GP.slice ho25
  have AN26 := Lib.hid (AN19.out.trans (h24.mono AN19.out.size))
  clear AN19
  have AN27 := Lib.hid (AN20.out.trans (h24.mono AN20.out.size))
  clear AN20
  have AN28 := Lib.hid (AN21.out.trans (h24.mono AN21.out.size))
  clear AN21
  have Pp := Lib.hid ho25
  clear h24 ho25
  have AN29 := Lib.hid (Below.refl V23.heap.size V23)
  go_wp2_with fail
  refine (PS.out V23 (R1.out.next AN27.out)).mono ?_
  rintro e V30 ⟨vs, rfl, ho32, h31⟩
  obtain ⟨As, cs, rfl⟩ := GP.slice ho32
  have AN33 := Lib.hid (AN26.out.trans (h31.mono AN26.out.size))
  clear AN26
  have AN34 := Lib.hid (AN27.out.trans (h31.mono AN27.out.size))
  clear AN27
  have AN35 := Lib.hid (AN28.out.trans (h31.mono AN28.out.size))
  clear AN28
  have AN36 := Lib.hid (AN29.out.trans (h31.mono AN29.out.size))
  clear AN29
  have Ps := Lib.hid ho32
  clear h31 ho32
  have AN37 := Lib.hid (Below.refl V30.heap.size V30)
  clear PI PS
  go_upto_block 0 with fail
  clear ne1 ne2
  go_cut [14, 15] from 93 to 124 (fun s i wz => s = .int .i64 ((smL G G.length : Nat) : Int) ∧ Below V30.heap.size V30 wz)
  case first =>
    go_wp2_with fail
    go_loopw [14, 15] (fun s i wr => ∃ k : Nat, k ≤ G.length ∧ s = .int .i64 ((smL G k : Nat) : Int) ∧ i = .int .i64 k ∧ Below V30.heap.size V30 wr) (fun _ i _ => G.length - (intOf i).toNat)
    case atStart => exact ⟨0, Nat.zero_le _, rfl, rfl, Below.refl _ _⟩
    case round =>
      obtain ⟨k, hk, rfl, rfl, hb⟩ := hrel
      have HB := Lib.hid hb
      by_cases hlt : k < G.length
      · have hlt2 : (k : Int) < (G.length : Int) := by omega
        obtain ⟨q, hq⟩ : ∃ q, G[k]? = some q := ⟨_, List.getElem?_eq_getElem hlt⟩
        obtain ⟨o1, d1, A5, c5, hv1, hob1, -, -, p0, p1, p2, p3, p4, own1⟩ := Go.Proofs.Ytdjcbfeilkepmaa.pltc.GP.read (Pp.out.below (AN36.out.trans (hb.mono AN36.out.size))) hq
        obtain ⟨o2, d2, A6, c6, hv2, hob2, -, -, s0, s1, s2, s3, s4, own2⟩ := Go.Proofs.Ytdjcbfeilkepmaa.pltc.GP.read (Ps.out.below (AN37.out.trans (hb.mono AN37.out.size))) hq
        obtain rfl : Ap = some ⟨o1, 0, none⟩ := by injection hv1
        obtain rfl : As = some ⟨o2, 0, none⟩ := by injection hv2
        have hkN := HGN.out
        have hql := (FG.out k q hq).2
        have hpl := (FG.out k q hq).1
        have hsm := FL.out k hk
        have HSM := Lib.hid (smL_next hq)
        have R1q := Lib.hid (intc.rd_of_own own1 (plL_length zs q))
        have R2q := Lib.hid (intc.rd_of_own own2 (plL_length zs q))
        have T1 := fun d0 os => Calls.regrown_of (rpl.rPlot (plS zs q) (plA zs q) (plX zs q) (plY zs q) (plL zs q) A5 A6 q.length c5 c6 _ (by omega) (R1q.out.next (below_regrown wr d0 os)) (R2q.out.next (below_regrown wr d0 os)))
        have T2 := fun d0 os => Calls.regrown_of (pltu.isValidPlot (plS zs q) (plA zs q) (plX zs q) (plY zs q) (plL zs q) A5 q.length c5 _ (by omega) (R1q.out.next (below_regrown wr d0 os)))
        rw [hpl] at T2
        have T1 := Lib.hid T1
        have T2 := Lib.hid T2
        have P4 := Lib.hid p4
        clear hb hv1 hv2 own1 own2 hpl hq
        generalize plS zs q = ps at *
        generalize plA zs q = pa at *
        generalize plX zs q = px at *
        generalize plY zs q = py at *
        generalize plL zs q = pL at *
        generalize q.length = ql at *
        generalize hs : smL G k = S0 at *
        generalize hs1 : smL G (k + 1) = S1 at *
        have HS1 := Lib.hid hs1
        clear hs hs1
        have e1 : IntKind.i64.wrap ((S0 : Int) + (ql : Int)) = (S1 : Int) := by rw [IntWalk.i64_in _ (by omega), HSM.out]; omega
        go_upto_region 16 with fail
        have p0' := fun d0 os => cell_regrown p0 d0 os
        have p1' := fun d0 os => cell_regrown p1 d0 os
        have p2' := fun d0 os => cell_regrown p2 d0 os
        have p3' := fun d0 os => cell_regrown p3 d0 os
        have p4' := fun d0 os => cell_regrown p4 d0 os
        have s0' := fun d0 os => cell_regrown s0 d0 os
        have s1' := fun d0 os => cell_regrown s1 d0 os
        have s2' := fun d0 os => cell_regrown s2 d0 os
        have s3' := fun d0 os => cell_regrown s3 d0 os
        have s4' := fun d0 os => cell_regrown s4 d0 os
        clear p0 p1 p2 p3 p4 s0 s1 s2 s3 s4
        refine wp_region_quiet_below (by kernel_rfl) (by kernel_rfl) ?_
        repeat (
          with_reducible refine wpQuiet_step (fun K hK => ?_)
          go_simp
          first
            | (refine hK _ ?_; clear hK K)
            | (apply Exists.intro
               refine ⟨fun _ => ?_, hK _ ?_⟩
               (first
                 | (go_at_call 29; with_reducible exact T1.out _ _)
                 | (go_at_call 30; with_reducible exact T2.out _ _))
               clear hK K))
        with_reducible refine wpQuiet_nil ?_
        intro _ hw'
        obtain ⟨⟨dq, osq⟩, hw''⟩ := hw'
        subst hw''
        have hbl := below_regrown wr dq osq
        have p4 := (hbl.cell (p := ⟨o1, k * 5 + 4, none⟩) hob1).trans P4.out
        have HB2 := Lib.hid (HB.out.trans (hbl.mono HB.out.size))
        clear p0' p1' p2' p3' p4' s0' s1' s2' s3' s4' T1 T2 hbl P4
        generalize Sort.grow (redrawn wr dq) osq = W3 at *
        go_wp2_with fail
        go_roundw
        case rel => exact ⟨k + 1, by omega, by rw [HS1.out], by go_num, HB2.out⟩
        case measure => simp [intOf]; omega
      · obtain rfl : k = G.length := by omega
        clear hb
        go_wp2_with fail
        go_meet
        exact ⟨rfl, HB.out⟩
  case rest =>
    obtain ⟨rfl, hbc⟩ := hcut
    have AN38 := Lib.hid (AN33.out.trans (hbc.mono AN33.out.size))
    clear AN33
    have AN39 := Lib.hid (AN34.out.trans (hbc.mono AN34.out.size))
    clear AN34
    have AN40 := Lib.hid (AN35.out.trans (hbc.mono AN35.out.size))
    clear AN35
    have AN41 := Lib.hid (AN36.out.trans (hbc.mono AN36.out.size))
    clear AN36
    have AN42 := Lib.hid (AN37.out.trans (hbc.mono AN37.out.size))
    clear AN37
    clear hbc
    generalize wc = VB at *
    clear AN41
    clear AN42
    clear Pp Ps FG FL
    go_upto_region 19 with fail
    go_cut [131] from 125 to 131 (fun s wx => s = .bool false ∧ VB = wx)
    case first =>
      cases O
      · go_wp2_with fail
        go_meet
        exact ⟨rfl, rfl⟩
      · have e0 := FT.out rfl
        have e1 : (((smL G G.length : Nat) : Int) != (n1 : Int)) = false := by rw [e0]; exact int_ne_self _
        clear e0
        go_wp2_with fail
        go_meet
        exact ⟨rfl, rfl⟩
    case rest =>
      obtain ⟨rfl, rfl⟩ := hcut
      clear FT
      generalize smL G G.length = ST at *
      go_upto_block 2 with fail
      go_cut [16, 17, 18, 19, 20, 21, 22] from 132 to 206 (fun a b c d e f i wz => Below VB.heap.size VB wz)
      case first =>
        go_wp2_with fail
        go_loopw [16, 17, 18, 19, 20, 21, 22] (fun iv _ _ _ _ _ _ wr => ∃ i : Nat, i ≤ gs.length ∧ iv = .int .i64 i ∧ Below VB.heap.size VB wr) (fun iv _ _ _ _ _ _ _ => gs.length - (intOf iv).toNat)
        case atStart => exact ⟨0, Nat.zero_le _, rfl, Below.refl _ _⟩
        case round =>
          obtain ⟨i, hi, rfl, hb⟩ := hrel
          have HB := Lib.hid hb
          by_cases hlt : i < gs.length
          · have hlt2 : (i : Int) < (gs.length : Int) := by omega
            have hgl : (gs.length : Int) ≤ 21 := by have := HML.out; omega
            clear hb
            generalize wr = Wi at *
            go_wp2_with fail
            go_loopw [17, 18, 19] (fun kv _ _ wr => ∃ k : Nat, k ≤ i ∧ kv = .int .i64 k ∧ Below VB.heap.size VB wr) (fun kv _ _ _ => i - (intOf kv).toNat)
            case atStart => exact ⟨0, Nat.zero_le _, rfl, HB.out⟩
            case round =>
              obtain ⟨k, hk, rfl, hb⟩ := hrel
              clear HB
              have HB := Lib.hid hb
              by_cases hki : k < i
              · have hki2 : (k : Int) < (i : Int) := by omega
                have hkM : (k : Int) < (gs.length : Int) := by omega
                obtain ⟨x, y, hx, hy, hkn, hin, hxy⟩ := FS.out k i hki hlt
                obtain ⟨ba, oa, rfl, lba, hca⟩ := (Ra.out.next (AN40.out.trans (hb.mono AN40.out.size))).2 (show 0 < gs.length by omega)
                have qx := hca k x hx
                have qy := hca i y hy
                obtain ⟨b1, o1, rfl, lb1, c0, c1, c2, c3, c4⟩ := plte.cellsE (R1.out.next (AN39.out.trans (hb.mono AN39.out.size))) hkn
                obtain ⟨b2, o2, eA, -, d0, d1, d2, d3, d4⟩ := plte.cellsE (R1.out.next (AN39.out.trans (hb.mono AN39.out.size))) hin
                obtain ⟨rfl, rfl⟩ : b1 = b2 ∧ o1 = o2 := by injection eA with e; injection e with e1 e2; exact ⟨e1, e2⟩
                have hkn2 : (k : Int) < (n1 : Int) := by omega
                have hin2 : (i : Int) < (n1 : Int) := by omega
                have HXY := Lib.hid hxy
                clear hb hca hx hy eA hxy
                generalize fld 5 zs k 0 = u0 at *
                generalize fld 5 zs i 0 = v0 at *
                generalize fld 5 zs k 1 = u1 at *
                generalize fld 5 zs i 1 = v1 at *
                generalize fld 5 zs k 2 = u2 at *
                generalize fld 5 zs i 2 = v2 at *
                generalize fld 5 zs k 3 = u3 at *
                generalize fld 5 zs i 3 = v3 at *
                generalize fld 5 zs k 4 = u4 at *
                generalize fld 5 zs i 4 = v4 at *
                go_upto_region 27 with fail
                go_quiet (fail)
                have KD := Lib.hid (show World.cell? wr ⟨b1, o1 + k * 5, none⟩ = some (.int .i64 u0) ∧ World.cell? wr ⟨b1, o1 + k * 5 + 1, none⟩ = some (.int .i64 u1) ∧ World.cell? wr ⟨b1, o1 + k * 5 + 2, none⟩ = some (.int .i64 u2) ∧ World.cell? wr ⟨b1, o1 + k * 5 + 3, none⟩ = some (.int .i64 u3) ∧ World.cell? wr ⟨b1, o1 + k * 5 + 4, none⟩ = some (.int .i64 u4) ∧ World.cell? wr ⟨b1, o1 + i * 5, none⟩ = some (.int .i64 v0) ∧ World.cell? wr ⟨b1, o1 + i * 5 + 1, none⟩ = some (.int .i64 v1) ∧ World.cell? wr ⟨b1, o1 + i * 5 + 2, none⟩ = some (.int .i64 v2) ∧ World.cell? wr ⟨b1, o1 + i * 5 + 3, none⟩ = some (.int .i64 v3) ∧ World.cell? wr ⟨b1, o1 + i * 5 + 4, none⟩ = some (.int .i64 v4) from ⟨c0, c1, c2, c3, c4, d0, d1, d2, d3, d4⟩)
                have HB2 := Lib.hid (aid.below_drewN HB.out ‹Nat›)
                clear qx qy c0 c1 c2 c3 c4 d0 d1 d2 d3 d4 HB
                have KE := Lib.hid (show World.cell? (wr.drewN ‹Nat›) ⟨b1, o1 + k * 5, none⟩ = some (.int .i64 u0) ∧ World.cell? (wr.drewN ‹Nat›) ⟨b1, o1 + k * 5 + 1, none⟩ = some (.int .i64 u1) ∧ World.cell? (wr.drewN ‹Nat›) ⟨b1, o1 + k * 5 + 2, none⟩ = some (.int .i64 u2) ∧ World.cell? (wr.drewN ‹Nat›) ⟨b1, o1 + k * 5 + 3, none⟩ = some (.int .i64 u3) ∧ World.cell? (wr.drewN ‹Nat›) ⟨b1, o1 + k * 5 + 4, none⟩ = some (.int .i64 u4) ∧ World.cell? (wr.drewN ‹Nat›) ⟨b1, o1 + i * 5, none⟩ = some (.int .i64 v0) ∧ World.cell? (wr.drewN ‹Nat›) ⟨b1, o1 + i * 5 + 1, none⟩ = some (.int .i64 v1) ∧ World.cell? (wr.drewN ‹Nat›) ⟨b1, o1 + i * 5 + 2, none⟩ = some (.int .i64 v2) ∧ World.cell? (wr.drewN ‹Nat›) ⟨b1, o1 + i * 5 + 3, none⟩ = some (.int .i64 v3) ∧ World.cell? (wr.drewN ‹Nat›) ⟨b1, o1 + i * 5 + 4, none⟩ = some (.int .i64 v4) from KD.out)
                clear KD
                generalize wr.drewN ‹Nat› = Wk at *
                by_cases he : x = y
                · obtain ⟨x1, x2, x3, ⟨x4, x5⟩, x6, x7⟩ := HXY.out he
                  have g0 : (x == y) = true := by rw [he]; simp
                  have g1 : (u1 == v1) = false := eq_no x1
                  have g2 : (u2 != v2) = false := by rw [x2]; exact int_ne_self _
                  have g3 : ¬ ww < v0 - u0 := by omega
                  have g4 : IntKind.i64.wrap (v0 - u0) = v0 - u0 := IntWalk.i64_in _ (by omega)
                  clear HXY he x1 x2 x3 x4 x5 x6 x7
                  go_upto_region 28 with fail
                  have CS := Lib.hid (show ∀ WZ : World, Below Wk.heap.size Wk WZ → World.cell? WZ ⟨b1, o1 + k * 5, none⟩ = some (.int .i64 u0) ∧ World.cell? WZ ⟨b1, o1 + k * 5 + 1, none⟩ = some (.int .i64 u1) ∧ World.cell? WZ ⟨b1, o1 + k * 5 + 2, none⟩ = some (.int .i64 u2) ∧ World.cell? WZ ⟨b1, o1 + k * 5 + 3, none⟩ = some (.int .i64 u3) ∧ World.cell? WZ ⟨b1, o1 + k * 5 + 4, none⟩ = some (.int .i64 u4) ∧ World.cell? WZ ⟨b1, o1 + i * 5, none⟩ = some (.int .i64 v0) ∧ World.cell? WZ ⟨b1, o1 + i * 5 + 1, none⟩ = some (.int .i64 v1) ∧ World.cell? WZ ⟨b1, o1 + i * 5 + 2, none⟩ = some (.int .i64 v2) ∧ World.cell? WZ ⟨b1, o1 + i * 5 + 3, none⟩ = some (.int .i64 v3) ∧ World.cell? WZ ⟨b1, o1 + i * 5 + 4, none⟩ = some (.int .i64 v4) from fun WZ hz => by
                    obtain ⟨k0, k1, k2, k3, k4, l0, l1, l2, l3, l4⟩ := KE.out
                    exact ⟨(hz.cell (World.block_lt_of_cell? _ _ k0)).trans k0, (hz.cell (World.block_lt_of_cell? _ _ k1)).trans k1, (hz.cell (World.block_lt_of_cell? _ _ k2)).trans k2, (hz.cell (World.block_lt_of_cell? _ _ k3)).trans k3, (hz.cell (World.block_lt_of_cell? _ _ k4)).trans k4, (hz.cell (World.block_lt_of_cell? _ _ l0)).trans l0, (hz.cell (World.block_lt_of_cell? _ _ l1)).trans l1, (hz.cell (World.block_lt_of_cell? _ _ l2)).trans l2, (hz.cell (World.block_lt_of_cell? _ _ l3)).trans l3, (hz.cell (World.block_lt_of_cell? _ _ l4)).trans l4⟩)
                  have BA := Lib.hid (((Below.refl Wk.heap.size Wk).alloc (Nat.le_refl _) (.cells #[.int .i64 u0, .int .i64 u1, .int .i64 u2, .int .i64 u3, .int .i64 u4] 53)).alloc (by rw [World.size_alloc]; omega) (.cells #[.int .i64 v0, .int .i64 v1, .int .i64 v2, .int .i64 v3, .int .i64 v4] 53))
                  have BB := Lib.hid (((Below.refl Wk.heap.size Wk).alloc (Nat.le_refl _) (.cells #[.int .i64 v0, .int .i64 v1, .int .i64 v2, .int .i64 v3, .int .i64 v4] 53)).alloc (by rw [World.size_alloc]; omega) (.cells #[.int .i64 u0, .int .i64 u1, .int .i64 u2, .int .i64 u3, .int .i64 u4] 53))
                  go_region_held3 (fun w' => World.cell? w' ⟨b1, o1 + k * 5, none⟩ = some (.int .i64 u0) ∧ World.cell? w' ⟨b1, o1 + k * 5 + 1, none⟩ = some (.int .i64 u1) ∧ World.cell? w' ⟨b1, o1 + k * 5 + 2, none⟩ = some (.int .i64 u2) ∧ World.cell? w' ⟨b1, o1 + k * 5 + 3, none⟩ = some (.int .i64 u3) ∧ World.cell? w' ⟨b1, o1 + k * 5 + 4, none⟩ = some (.int .i64 u4) ∧ World.cell? w' ⟨b1, o1 + i * 5, none⟩ = some (.int .i64 v0) ∧ World.cell? w' ⟨b1, o1 + i * 5 + 1, none⟩ = some (.int .i64 v1) ∧ World.cell? w' ⟨b1, o1 + i * 5 + 2, none⟩ = some (.int .i64 v2) ∧ World.cell? w' ⟨b1, o1 + i * 5 + 3, none⟩ = some (.int .i64 v3) ∧ World.cell? w' ⟨b1, o1 + i * 5 + 4, none⟩ = some (.int .i64 v4)) (first
                    | exact CS.out _ (Below.refl Wk.heap.size Wk).drew
                    | exact CS.out _ ((Below.refl Wk.heap.size Wk).alloc (Nat.le_refl _) _).drew
                    | exact CS.out _ (((Below.refl Wk.heap.size Wk).alloc (Nat.le_refl _) _).alloc (by rw [World.size_alloc]; omega) _).drew
                    | go_keep) (fail)
                  all_goals (
                    go_wp2_with fail
                    go_roundw
                    case rel => exact ⟨k + 1, by omega, by go_num, by first | exact HB2.out.trans (BA.out.drew.mono HB2.out.size) | exact HB2.out.trans (BB.out.drew.mono HB2.out.size)⟩
                    case measure => simp [intOf]; omega)
                · have g0 : (x == y) = false := eq_no he
                  clear HXY he KE
                  go_wp2_with fail
                  go_roundw
                  case rel => exact ⟨k + 1, by omega, by go_num, HB2.out⟩
                  case measure => simp [intOf]; omega
              · obtain rfl : k = i := by omega
                obtain ⟨gx, hgx, hsb, hs3, hs4, hr0, hr1⟩ := FP.out k hlt
                obtain ⟨ba, oa, rfl, lba, hca⟩ := (Ra.out.next (AN40.out.trans (hb.mono AN40.out.size))).2 (show 0 < gs.length by omega)
                have qx := hca k gx hgx
                have S1 := SI.out gx wr (R1.out.next (AN39.out.trans (hb.mono AN39.out.size)))
                rw [hsb] at S1
                have S1 := Lib.hid S1
                have e1 : IntKind.i64.wrap (2 * r) = 2 * r := IntWalk.i64_in _ (by omega)
                clear hb hca hgx hsb hki
                generalize spV zs n1 ww r gx 3 = t3 at *
                generalize spV zs n1 ww r gx 4 = t4 at *
                go_wp2_with fail
                refine S1.out.mono ?_
                rintro e wy ⟨rfl, hby⟩
                have HB3 := Lib.hid (HB.out.trans (hby.mono HB.out.size))
                clear hby S1 HB qx
                go_wp2_with fail
                go_roundw
                case rel => exact ⟨k + 1, by omega, by go_num, HB3.out⟩
                case measure => simp [intOf]; omega
          · obtain rfl : i = gs.length := by omega
            clear hb
            go_wp2_with fail
            go_meet
            exact HB.out
      case rest =>
        have hbc := hcut
        have AN43 := Lib.hid (AN38.out.trans (hbc.mono AN38.out.size))
        clear AN38
        have AN44 := Lib.hid (AN39.out.trans (hbc.mono AN39.out.size))
        clear AN39
        have AN45 := Lib.hid (AN40.out.trans (hbc.mono AN40.out.size))
        clear AN40
        clear hbc
        generalize wc = VD at *
        clear AN44
        clear AN45
        clear R1 Ra FS FP SI
        go_wp2_with fail
        refine (draws13.spreadOf A n c VD hn (Bytes_below H.out AN43.out)).mono ?_
        rintro e VE ⟨vl, n2, ys, w2, r2, g2, rfl, ho2, hn22, hw2, hr2, h2⟩
        obtain ⟨A2, c2, rfl⟩ := own_sliceZ ho2
        have AN46 := Lib.hid (AN43.out.trans (h2.mono AN43.out.size))
        clear AN43
        have R2 := Lib.hid (RdZ.of_own ho2 (draws13.own_len ho2))
        clear ho2 h2
        have AN47 := Lib.hid (Below.refl VE.heap.size VE)
        clear hw2 hr2
        have CI := Lib.hid (fun W h => pltx.spreadOf ys w2 r2 g2 A2 n2 c2 W (by omega) h)
        have CS := Lib.hid (fun W h => plty.spreadOf ys w2 r2 g2 A2 n2 c2 W (by omega) h)
        generalize spV ys n2 w2 r2 g2 3 = t3 at *
        generalize spV ys n2 w2 r2 g2 4 = t4 at *
        generalize spB ys n2 w2 r2 g2 = Q at *
        have eq1 := int_eq_self t3
        have eq2 := int_eq_self t4
        have eq3 := bool_eq_self Q
        go_wp2_with fail
        refine (CI.out VE (R2.out.next AN47.out)).mono ?_
        rintro e V48 ⟨rfl, h49⟩
        have AN50 := Lib.hid (AN46.out.trans (h49.mono AN46.out.size))
        clear AN46
        have AN51 := Lib.hid (AN47.out.trans (h49.mono AN47.out.size))
        clear AN47
        clear h49
        go_wp2_with fail
        refine (CS.out V48 (R2.out.next AN51.out)).mono ?_
        rintro e V52 ⟨rfl, h53⟩
        have AN54 := Lib.hid (AN50.out.trans (h53.mono AN50.out.size))
        clear AN50
        have AN55 := Lib.hid (AN51.out.trans (h53.mono AN51.out.size))
        clear AN51
        clear h53
        go_wp2_with fail
        go_ret
        exact ⟨rfl, AN54.out⟩

theorem own : ownKnob Try.prog.godebug = none := by kernel_rfl
theorem laidOut : laidOutB Try.prog = true := by kernel_rfl

set_option maxRecDepth 100000 in
theorem lifted (os : Os) (started : os.Started) (H : Type) (enc : TypeId × Value → H) :
    ReturnsInHanded {} Try.checked os 4 .any (Rows.fnGroupsSpec.pre6 enc Try.prog Try.f4 Rows.fnGroupsRow.domain false) (Rows.fnGroupsSpec.post enc Try.prog Try.f4 false true false false) := by
  refine returnsInHanded_of_change (C := Try.checked) own started (by kernel_rfl) Try.func4
    (ChangeSpec.witness6 (enc := enc) (C := Try.checked) false ⟨#[], #[.slice none 0 0], []⟩ 8 (by kernel_rfl) (by kernel_rfl) (by kernel_rfl) (by kernel_rfl)) ?_
  intro W base args ds gs before hval0 hW hcnd _
  have hval : ∀ (j : Nat) t v, Try.f4.params[j]? = some t → args[j]? = some v → Value.okWide Try.prog W .any base t v := hval0
  have hW' := hW
  obtain ⟨p, q, hA0, hV, rfl, hfz, hnd⟩ := hW
  have hA : DataW.TrodAll enc Try.prog W 0 (fun _ => true) true Try.f4.params.toList args.toList ds p := hA0
  rw [Try.params4] at hA hval
  obtain ⟨v0, vs0, d0, ds0, p0, q0, hargs, rfl, rfl, h0, r0⟩ := trodAll_cons hA
  obtain ⟨rfl, rfl, rfl⟩ := trodAll_nil r0
  obtain rfl : args = #[v0] := by cases args; simp_all
  obtain ⟨rfl, rfl⟩ := trodVars_none hV
  obtain ⟨a0, len0, cap0, rfl⟩ := okWide_slice Try.underlying22 (hval 0 22 v0 rfl rfl)
  have k0 := h0
  have lt0 : ∀ x ∈ p0, x.block < W.heap.size := by obtain ⟨m, hm⟩ := k0; exact DataW.trod_lt m _ _ _ hm
  obtain ⟨z0, w0⟩ : ∃ zs, IsRow .u8 W a0 len0 cap0 zs := by
    obtain ⟨fuel, hf⟩ := h0
    rcases open_ints Try.underlying22 Try.underlying5 (by kernel_rfl) hf with ⟨hcs, _⟩ | ⟨x, l, c, zs, hcs, _, hl, hm, hz, _, hcell, hwz⟩
    · simp [Value.cells] at hcs
      obtain ⟨rfl, rfl, rfl⟩ := hcs
      exact ⟨[], .inl ⟨rfl, rfl, rfl, rfl⟩⟩
    · simp [Value.cells] at hcs
      obtain ⟨rfl, rfl, rfl⟩ := hcs
      exact ⟨zs, .inr ⟨_, rfl, hl, hm, by simpa using hz, hcell, hwz⟩⟩
  clear hA0 hval0
  refine (walk a0 len0 cap0 z0 W w0).mono fun e W' ⟨he, bel⟩ => ?_
  subst he
  exact ⟨_, rfl, _, _, _, [], _, [], hW', trodAll_mk1 (shut_bool Try.underlying4 _), (trodAll_cons_mk (Below.trod laidOut (by kernel_rfl) (of_decide_eq_true (by kernel_rfl)) k0 bel lt0) trodAll_mk0), rfl, bel.frame _, fun h => by cases h⟩

theorem over : Rows.fnGroupsRow.holds Try.pinned (OpenSpec.ofChange Rows.fnGroupsSpec) :=
  OpenClaim.holds_of_wide 4 Try.f4 rfl rfl rfl rfl rfl rfl rfl ⟨rfl, rfl, rfl, rfl, rfl⟩ rfl rfl rfl rfl rfl (by kernel_rfl) Try.func4 (by kernel_rfl)
    (of_decide_eq_true (by kernel_rfl)) (by unfold Func.isWrapper; first | (rw [if_pos (by decide +kernel)]; kernel_rfl) | (rw [if_neg (by decide +kernel)]; exact ⟨rfl, rfl⟩))
    (fun os started H enc _ => lifted os started H enc)

theorem proved : Rows.FnGroupsSaid :=
  over
#print axioms proved
end Go.Proofs.Ytdjcbfeilkepmaa.fnGroups
