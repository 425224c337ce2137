/- spec's l1Own, l15Best, BestAssignment. -/
import Derived.Test.YtedocpocfpopgaaAsgV
import Derived.Test.YtedocpocfpopgaaAsgB
import Derived.Test.YtedocpocfpopgaaRws
import Derived.OwnWalk
namespace Go.Proofs.Ytedocpocfpopgaa.asgy
open Go.RowKit Go.Proofs.Ytedocpocfpopgaa.ints Go.Proofs.Ytedocpocfpopgaa.lst Go.Proofs.Ytedocpocfpopgaa.in_ Go.Proofs.Ytedocpocfpopgaa.ats Go.Proofs.Ytedocpocfpopgaa.pos Go.Proofs.Ytedocpocfpopgaa.trk Go.Proofs.Ytedocpocfpopgaa.trkm Go.Proofs.Ytedocpocfpopgaa.trke Go.Proofs.Ytedocpocfpopgaa.intc Go.Proofs.Ytedocpocfpopgaa.asg Go.Proofs.Ytedocpocfpopgaa.asgb Go.Proofs.Ytedocpocfpopgaa.rws

theorem own_some {w : World} {B : Nat} {e : TypeId} {v : Value} {n : Nat} {xs : List Value} (h : w.ownsRow B e 1 v n xs) (h0 : 0 < n) : ∃ g c, v = .slice (some ⟨g, 0, none⟩) n c := by
  rcases h.2 with ⟨_, h1⟩ | ⟨g, cap, cur, rfl, _⟩
  · omega
  · exact ⟨g, cap, rfl⟩
theorem rd_cells {w : World} {B b o n : Nat} {P : List Int} (h : RdI w B (some ⟨b, o, none⟩) n P) : ∀ j u, (cellsI P)[j]? = some u → w.cell? ((⟨b, o, none⟩ : Addr).add j) = some u := by
  intro j u hu
  unfold cellsI at hu
  rw [List.getElem?_map] at hu
  cases hx : P[j]? with
  | none => rw [hx] at hu; cases hu
  | some x =>
    rw [hx] at hu
    have hj := (List.getElem?_eq_some_iff.1 hx).1
    obtain ⟨b', o', e, _, hc⟩ := h.2 (by have := h.1; omega)
    injection e with e
    injection e with e1 e2
    subst e1 e2
    rw [Addr.add_lit, hc j x hx]
    exact hu
theorem one_cells (P : List Int) : ∀ u ∈ cellsI P, u.oneCell' = true := by
  intro u hu
  unfold cellsI at hu
  rw [List.mem_map] at hu
  obtain ⟨x, _, rfl⟩ := hu
  rfl
theorem own1 (P : List Int) (b o n c : Nat) (w : World) (hn : n ≤ 1048576) (h : RdI w w.heap.size (some ⟨b, o, none⟩) n P) :
    Calls Try.prog 75 #[.slice (some ⟨b, o, none⟩) n c] w fun e w' => ∃ v, e = .returned v ∧ w'.ownsRow w.heap.size 3 1 v n (cellsI P) ∧ Below w.heap.size w w' := by
  obtain ⟨iI, hiI, hzI0, hzI1, hzI2⟩ := info_parts infoI
  have OE := Lib.hid (own_emptyZ w 3 1)
  have BE := Lib.hid ((Below.refl w.heap.size w).alloc (Nat.le_refl _) (.cells #[] 3))
  have HC := Lib.hid (rd_cells (h.next BE.out))
  have HL := Lib.hid (show (cellsI P).length = n * 1 by unfold cellsI; rw [List.length_map, h.1]; omega)
  have H1 := Lib.hid (one_cells P)
  clear h
  generalize cellsI P = Q at *
  go_enter Try.func75, Try.ntmps75
  go_wp2_with (at_builtin; refine wpList_append_any rfl (.tmp 3) (.tmp 4) 35 rfl w.heap.size 3 iI (.int .i64 0) 1 8 Try.underlying35 hiI hzI0 hzI1 hzI2 rfl (by decide) _ 0 [] rfl OE.out ⟨b, o, none⟩ n c Q rfl HL.out HC.out H1.out (by unfold maxLen; omega) (by omega) (by rw [World.size_alloc]; omega) ?_; intro v6 w6 o6 g6 n6)
  have O6 := Lib.hid (show w6.ownsRow w.heap.size 3 1 v6 n Q by rw [Nat.zero_add] at o6; exact o6)
  have B6 := Lib.hid (BE.out.grown g6 BE.out.size (own_.row_ge OE.out))
  obtain ⟨A6, c6, rfl⟩ := own_sliceZ O6.out
  clear o6 g6 n6
  go_wp2_with fail
  go_ret
  exact ⟨_, rfl, O6.out, B6.out⟩

set_option maxRecDepth 100000 in
set_option maxHeartbeats 4000000 in
theorem best15 {zs ps : List Int} {g : Int} {A C : Option Addr} {n c m cq : Nat} (hq : akB zs n ps m g = true) : ∀ (r : Nat) (P : List Int) (B g0 ce : Nat) (w : World), P.length + r = n → prB (pst zs ps) g m P P.length = true → B ≤ w.heap.size → RdZ 6 w w.heap.size A n zs → RdZ 2 w w.heap.size C m ps → w.ownsRow B 3 1 (.slice (some ⟨g0, 0, none⟩) P.length ce) P.length (cellsI P) →
    Calls Try.prog 57 #[.slice A n c, .slice C m cq, .int .i64 g, .slice (some ⟨g0, 0, none⟩) P.length ce] w fun e w' => ∃ v, e = .returned (.tuple #[v, .int .i64 (pcT (pst zs ps) g P P.length + (bst (pst zs ps) g m r P).2)]) ∧ w'.ownsRow B 3 1 v n (cellsI (P ++ (bst (pst zs ps) g m r P).1)) ∧ Below w.heap.size w w' := by
  intro r
  induction r with
  | zero =>
    intro P B g0 ce w hl hpr hB h1 h2 hO
    have hl' : P.length = n := hl
    have HRI := Lib.hid (intc.rd_of_own hO rfl)
    have hag : agB zs P.length ps m g P P.length = true := agB_of (by rw [hl']; exact hq) hpr
    have HC := Lib.hid (asgv.cost15 zs ps P g A C (some ⟨g0, 0, none⟩) c m cq P.length ce w hag (by rw [hl']; exact h1) h2 HRI.out)
    have HV := Lib.hid (show pcT (pst zs ps) g P P.length + (bst (pst zs ps) g m 0 P).2 = coT (pst zs ps) g (P.length + m) P P.length from (co_pc rfl hpr).symm)
    have HX := Lib.hid (show P ++ (bst (pst zs ps) g m 0 P).1 = P from List.append_nil P)
    have HO := Lib.hid hO
    rw [← hl']
    have g1 : ((P.length : Int) == (P.length : Int)) = true := by simp
    generalize (bst (pst zs ps) g m 0 P) = R at *
    generalize pcT (pst zs ps) g P P.length = pc at *
    clear hpr hag h1 h2 hO hl hl' HRI
    go_enter Try.func57, Try.ntmps57
    go_wp2_with fail
    refine HC.out.mono ?_
    rintro e w1 ⟨rfl, hb⟩
    have O1 := Lib.hid (own_.own_below HO.out hb)
    have HB1 := Lib.hid hb
    clear hb HC
    go_wp2_with fail
    go_ret2
    exact ⟨_, by rw [HV.out]; rfl, by rw [HX.out]; exact O1.out, HB1.out⟩
  | succ r ih =>
    intro P B g0 ce w hl hpr hB h1 h2 hO
    obtain ⟨iI, hiI, hzI0, hzI1, hzI2⟩ := info_parts infoI
    have hg := (akB_yes hq).2.2.2
    have hm := (akB_yes hq).2.2.1
    have hn6 := (tvB_yes (akB_yes hq).1).2
    have hi : P.length < n := by omega
    have IH1 := Lib.hid (fun (g0 ce : Nat) (W : World) (hw : w.heap.size ≤ W.heap.size) (hb : Below w.heap.size w W) (hO : W.ownsRow w.heap.size 3 1 (.slice (some ⟨g0, 0, none⟩) (P.length + 1) ce) (P.length + 1) (cellsI (P ++ [-1]))) => show Calls Try.prog 57 #[.slice A n c, .slice C m cq, .int .i64 g, .slice (some ⟨g0, 0, none⟩) (P.length + 1) ce] W (fun e w' => ∃ v, e = .returned (.tuple #[v, .int .i64 ((pcT (pst zs ps) g P P.length + (g + 1)) + (bst (pst zs ps) g m r (P ++ [-1])).2)]) ∧ w'.ownsRow w.heap.size 3 1 v n (cellsI ((P ++ [-1]) ++ (bst (pst zs ps) g m r (P ++ [-1])).1)) ∧ Below W.heap.size W w') from by
      have := ih (P ++ [-1]) w.heap.size g0 ce W (by rw [List.length_append]; show P.length + 1 + r = n; omega) (pr_none hpr) hw (h1.next hb) (h2.next hb) (by rw [List.length_append]; exact hO)
      rw [pc_none, List.length_append] at this
      exact this)
    have IH2 := Lib.hid (fun (k : Nat) (hk : k < m) (hc : P.contains (k : Int) = false) (hd : pst zs ps P.length k ≤ g) (g0 ce : Nat) (W : World) (hw : w.heap.size ≤ W.heap.size) (hb : Below w.heap.size w W) (hO : W.ownsRow w.heap.size 3 1 (.slice (some ⟨g0, 0, none⟩) (P.length + 1) ce) (P.length + 1) (cellsI (P ++ [(k : Int)]))) => show Calls Try.prog 57 #[.slice A n c, .slice C m cq, .int .i64 g, .slice (some ⟨g0, 0, none⟩) (P.length + 1) ce] W (fun e w' => ∃ v, e = .returned (.tuple #[v, .int .i64 ((pcT (pst zs ps) g P P.length + pst zs ps P.length k) + (bst (pst zs ps) g m r (P ++ [(k : Int)])).2)]) ∧ w'.ownsRow w.heap.size 3 1 v n (cellsI ((P ++ [(k : Int)]) ++ (bst (pst zs ps) g m r (P ++ [(k : Int)])).1)) ∧ Below W.heap.size W w') from by
      have := ih (P ++ [(k : Int)]) w.heap.size g0 ce W (by rw [List.length_append]; show P.length + 1 + r = n; omega) (pr_some hpr hk hc hd) hw (h1.next hb) (h2.next hb) (by rw [List.length_append]; exact hO)
      rw [pc_some, List.length_append] at this
      exact this)
    have HOW := Lib.hid (fun (W : World) (hb : Below w.heap.size w W) => own1 P g0 0 P.length ce W (by omega) ((intc.rd_of_own hO rfl).next hb))
    have HHAS := Lib.hid (fun (k : Nat) (W : World) (hb : Below w.heap.size w W) (d0 : Nat) (os : Array Obj) => Calls.regrown_of (asgu.to_below (asgs.has1 P (k : Int) (some ⟨g0, 0, none⟩) P.length ce (Sort.grow (redrawn W d0) os) (by omega) (((intc.rd_of_own hO rfl).next hb).next (below_regrown W d0 os)))))
    have HT := Lib.hid (fun (k : Nat) (hk : k < m) (W : World) (d0 : Nat) (os : Array Obj) => Calls.regrown_of (show Calls Try.prog 45 #[.agg #[.int .i64 (fld 6 zs P.length 0), .int .i64 (fld 6 zs P.length 1), .int .i64 (fld 6 zs P.length 2), .int .i64 (fld 6 zs P.length 3), .int .i64 (fld 6 zs P.length 4), .int .i64 (fld 6 zs P.length 5)], .agg #[.int .i64 (fld 2 ps k 0), .int .i64 (fld 2 ps k 1)]] (Sort.grow (redrawn W d0) os) (fun e w' => e = .returned (.int .i64 (pst zs ps P.length k)) ∧ Below (Sort.grow (redrawn W d0) os).heap.size (Sort.grow (redrawn W d0) os) w') from asgs.distance15 (fld 6 zs P.length 0) (fld 6 zs P.length 1) (fld 6 zs P.length 2) (fld 6 zs P.length 3) (fld 6 zs P.length 4) (fld 6 zs P.length 5) (fld 2 ps k 0) (fld 2 ps k 1) (ak_track hq hi) (ak_plot hq hk) (Sort.grow (redrawn W d0) os)))
    obtain ⟨S, hS⟩ : ∃ S : Nat → List Int × Int, S = stp P (pst zs ps P.length) g (fun k => (bst (pst zs ps) g m r (P ++ [(k : Int)]))) (-1 :: (bst (pst zs ps) g m r (P ++ [-1])).1, (bst (pst zs ps) g m r (P ++ [-1])).2 + (g + 1)) := ⟨_, rfl⟩
    have HEND := (show (bst (pst zs ps) g m (r + 1) P) = S m by rw [hS]; rfl)
    have H0 := Lib.hid (show (S 0).1 = -1 :: (bst (pst zs ps) g m r (P ++ [-1])).1 ∧ (S 0).2 = (bst (pst zs ps) g m r (P ++ [-1])).2 + (g + 1) by rw [hS]; exact ⟨rfl, rfl⟩)
    have HSK := Lib.hid (fun (k : Nat) (h : P.contains (k : Int) = true ∨ g < pst zs ps P.length k) => show S (k + 1) = S k by rw [hS]; exact stp_skip h)
    have HTK := Lib.hid (fun (k : Nat) (h1 : P.contains (k : Int) = false) (h2 : pst zs ps P.length k ≤ g) (h3 : (bst (pst zs ps) g m r (P ++ [(k : Int)])).2 + pst zs ps P.length k < (S k).2) => show (S (k + 1)).1 = (k : Int) :: (bst (pst zs ps) g m r (P ++ [(k : Int)])).1 ∧ (S (k + 1)).2 = (bst (pst zs ps) g m r (P ++ [(k : Int)])).2 + pst zs ps P.length k by
      have := stp_take (q := fun k : Nat => (bst (pst zs ps) g m r (P ++ [(k : Int)]))) (a := (-1 :: (bst (pst zs ps) g m r (P ++ [-1])).1, (bst (pst zs ps) g m r (P ++ [-1])).2 + (g + 1))) h1 (show ¬ g < pst zs ps P.length k by omega) (by rw [← hS]; exact h3)
      rw [hS, this]; exact ⟨rfl, rfl⟩)
    have HKP := Lib.hid (fun (k : Nat) (h1 : P.contains (k : Int) = false) (h2 : pst zs ps P.length k ≤ g) (h3 : (S k).2 ≤ (bst (pst zs ps) g m r (P ++ [(k : Int)])).2 + pst zs ps P.length k) => show S (k + 1) = S k by
      have := stp_keep (q := fun k : Nat => (bst (pst zs ps) g m r (P ++ [(k : Int)]))) (a := (-1 :: (bst (pst zs ps) g m r (P ++ [-1])).1, (bst (pst zs ps) g m r (P ++ [-1])).2 + (g + 1))) h1 (show ¬ g < pst zs ps P.length k by omega) (by rw [← hS]; show ¬ (bst (pst zs ps) g m r (P ++ [(k : Int)])).2 + pst zs ps P.length k < (S k).2; omega)
      rw [hS]; exact this)
    rw [HEND]
    have HR1 := Lib.hid h1
    have HR2 := Lib.hid h2
    have HCI := Lib.hid (fun x : Int => show cellsI P ++ [Value.int .i64 x] = cellsI (P ++ [x]) by unfold cellsI; rw [List.map_append]; rfl)
    have HSE := Lib.hid (fun (x : Int) (t : List Int) => (step_eq P x t).symm)
    have g1 : ((P.length : Int) == (n : Int)) = false := beq_eq_false_iff_ne.mpr (by omega)
    have hpl0 : (0 : Int) ≤ (P.length : Int) := Int.natCast_nonneg _
    have hpln : (P.length : Int) < (n : Int) := by omega
    have HIP := Lib.hid hi
    have HBB := Lib.hid hB
    have hpl6 : P.length ≤ 6 := by omega
    clear ih hq hl hS HEND hi hpr hB h1 h2 hO
    generalize (bst (pst zs ps) g m r (P ++ [-1])) = R1 at *
    obtain ⟨xs1, c1⟩ := R1
    generalize pcT (pst zs ps) g P P.length = pc at *
    go_enter Try.func57, Try.ntmps57
    go_wp2_with fail
    refine (HOW.out w (Below.refl _ _)).mono ?_
    rintro e W1 ⟨v1, rfl, ho, hb⟩
    obtain ⟨A1, c1', rfl⟩ := own_sliceZ ho
    have hbs := hb.size
    have O5 := Lib.hid (ho.alloc (.cells #[.int .i64 (-1)] 3))
    have B5 := Lib.hid (hb.alloc hb.size (.cells #[.int .i64 (-1)] 3))
    clear ho hb
    go_wp2_with (at_builtin; refine wpList_append_any rfl (.tmp 33) (.tmp 34) 35 rfl w.heap.size 3 iI (.int .i64 0) 1 8 Try.underlying35 hiI hzI0 hzI1 hzI2 rfl (by decide) _ P.length (cellsI P) rfl O5.out ⟨W1.heap.size, 0, none⟩ 1 1 [.int .i64 (-1)] rfl rfl (cell_one_new _ _ _) (own_.one_cell _ rfl) (by unfold maxLen; omega) (by omega) (by rw [World.size_alloc]; omega) ?_; intro v6 w6 o6 g6 n6)
    obtain ⟨g1', c6, rfl⟩ := own_some o6 (by omega)
    rw [HCI.out] at o6
    have B6 := Lib.hid (B5.out.grown g6 B5.out.size (own_.row_ge O5.out))
    refine (IH1.out g1' c6 w6 B6.out.size B6.out o6).mono ?_
    rintro e W2 ⟨v2, rfl, ho2, hb2⟩
    obtain ⟨A2, c2', rfl⟩ := own_sliceZ ho2
    have O7 := Lib.hid (show W2.ownsRow w.heap.size 3 1 (.slice A2 n c2') n (cellsI (P ++ (S 0).1)) by rw [H0.out.1, ← HSE.out]; exact ho2)
    have B7 := Lib.hid (B6.out.trans (hb2.mono B6.out.size))
    clear ho2 hb2 o6 g6 n6 O5 B5 B6 IH1 hbs
    go_wp2_with fail
    go_loopw [11, 12, 13] (fun b q j wr => ∃ k : Nat, k ≤ m ∧ j = .int .i64 k ∧ q = .int .i64 (pc + (S k).2) ∧ wr.ownsRow w.heap.size 3 1 b n (cellsI (P ++ (S k).1)) ∧ Below w.heap.size w wr) (fun _ _ j _ => m - (intOf j).toNat)
    case atStart => exact ⟨0, Nat.zero_le _, rfl, by rw [H0.out.2]; exact congrArg _ (by show pc + (g + 1) + c1 = pc + (c1 + (g + 1)); omega), O7.out, B7.out⟩
    case round =>
      obtain ⟨k, hk, rfl, rfl, hO, hb⟩ := hrel
      obtain ⟨Ab, cb, rfl⟩ := own_sliceZ hO
      have OB := Lib.hid hO
      have HB := Lib.hid hb
      clear O7 B7 hO hb
      by_cases hlt : k < m
      · obtain ⟨b2, o2, rfl, l2, q0, q1⟩ := asgs.cells2 (HR2.out.next HB.out) hlt
        obtain ⟨b1, o1, rfl, -, a0, a1, a2, a3, a4, a5⟩ := cellsE (HR1.out.next HB.out) HIP.out
        have hlt2 : (k : Int) < (m : Int) := by omega
        have hk0 : (0 : Int) ≤ (k : Int) := Int.natCast_nonneg _
        have TD := Lib.hid (HT.out k hlt)
        have TC := Lib.hid (HHAS.out k wr HB.out)
        have HSKk := Lib.hid (HSK.out k)
        have HTKk := Lib.hid (HTK.out k)
        have HKPk := Lib.hid (HKP.out k)
        have IHk := Lib.hid (IH2.out k hlt)
        generalize fld 6 zs P.length 0 = u0 at *
        generalize fld 6 zs P.length 1 = u1 at *
        generalize fld 6 zs P.length 2 = u2 at *
        generalize fld 6 zs P.length 3 = u3 at *
        generalize fld 6 zs P.length 4 = u4 at *
        generalize fld 6 zs P.length 5 = u5 at *
        generalize fld 2 ps k 0 = v0 at *
        generalize fld 2 ps k 1 = v1 at *
        generalize pst zs ps P.length k = dd at *
        cases hc : P.contains (k : Int)
        · by_cases hd : g < dd
          · have HV := Lib.hid (HSKk.out (Or.inr hd))
            rw [hc] at TC
            have g9 : decide (g < dd) = true := decide_eq_true hd
            clear hc HSKk HTKk HKPk IHk
            generalize S k = sk at *
            go_wp2_with fail
            have a0' := fun d0 os => cell_regrown a0 d0 os
            have a1' := fun d0 os => cell_regrown a1 d0 os
            have a2' := fun d0 os => cell_regrown a2 d0 os
            have a3' := fun d0 os => cell_regrown a3 d0 os
            have a4' := fun d0 os => cell_regrown a4 d0 os
            have a5' := fun d0 os => cell_regrown a5 d0 os
            have q0' := fun d0 os => cell_regrown q0 d0 os
            have q1' := fun d0 os => cell_regrown q1 d0 os
            clear a0 a1 a2 a3 a4 a5 q0 q1
            refine wp_region_quiet_below (by kernel_rfl) (by kernel_rfl) ?_
            repeat (
              with_reducible refine wpQuiet_step (fun K hK => ?_)
              go_simp
              first
                | (refine hK _ ?_; clear hK K)
                | (apply Exists.intro
                   refine ⟨fun _ => ?_, hK _ ?_⟩
                   (first
                     | (go_at_call 59; with_reducible exact TC.out _ _)
                     | (go_at_call 45; with_reducible exact TD.out _ _ _))
                   clear hK K))
            with_reducible refine wpQuiet_nil ?_
            intro _ hw'
            obtain ⟨⟨dq, osq⟩, hw''⟩ := hw'
            subst hw''
            have hbl := (below_regrown wr dq osq)
            clear a0' a1' a2' a3' a4' a5' q0' q1'
            generalize Sort.grow (redrawn wr dq) osq = w3 at *
            have HB3 := Lib.hid (HB.out.trans (hbl.mono HB.out.size))
            have OB3 := Lib.hid (own_.own_below OB.out hbl)
            clear hbl HB OB TC TD
            go_wp2_with fail
            go_roundw
            case rel => exact ⟨k + 1, by omega, by go_num, by rw [HV.out], by rw [HV.out]; exact OB3.out, HB3.out⟩
            case measure => simp [intOf]; omega
          · have hd2 : dd ≤ g := by omega
            have g9 : decide (g < dd) = false := decide_eq_false hd
            have IHc := Lib.hid (IHk.out hc hd2)
            have HTC := Lib.hid (HTKk.out hc hd2)
            have HKC := Lib.hid (HKPk.out hc hd2)
            rw [hc] at TC
            clear hc HSKk HTKk HKPk IHk HTK HKP IH2
            generalize (bst (pst zs ps) g m r (P ++ [(k : Int)])) = R2 at *
            obtain ⟨xs2, c2⟩ := R2
            go_wp2_with fail
            have a0' := fun d0 os => cell_regrown a0 d0 os
            have a1' := fun d0 os => cell_regrown a1 d0 os
            have a2' := fun d0 os => cell_regrown a2 d0 os
            have a3' := fun d0 os => cell_regrown a3 d0 os
            have a4' := fun d0 os => cell_regrown a4 d0 os
            have a5' := fun d0 os => cell_regrown a5 d0 os
            have q0' := fun d0 os => cell_regrown q0 d0 os
            have q1' := fun d0 os => cell_regrown q1 d0 os
            clear a0 a1 a2 a3 a4 a5 q0 q1
            refine wp_region_quiet_below (by kernel_rfl) (by kernel_rfl) ?_
            repeat (
              with_reducible refine wpQuiet_step (fun K hK => ?_)
              go_simp
              first
                | (refine hK _ ?_; clear hK K)
                | (apply Exists.intro
                   refine ⟨fun _ => ?_, hK _ ?_⟩
                   (first
                     | (go_at_call 59; with_reducible exact TC.out _ _)
                     | (go_at_call 45; with_reducible exact TD.out _ _ _))
                   clear hK K))
            with_reducible refine wpQuiet_nil ?_
            intro _ hw'
            obtain ⟨⟨dq, osq⟩, hw''⟩ := hw'
            subst hw''
            have hbl := (below_regrown wr dq osq)
            clear a0' a1' a2' a3' a4' a5' q0' q1'
            generalize Sort.grow (redrawn wr dq) osq = w3 at *
            have HB3 := Lib.hid (HB.out.trans (hbl.mono HB.out.size))
            have OB3 := Lib.hid (own_.own_below OB.out hbl)
            clear hbl HB OB TC TD
            go_wp2_with fail
            refine (HOW.out w3 HB3.out).mono ?_
            rintro e W1 ⟨v1, rfl, ho, hb⟩
            obtain ⟨A1, c1', rfl⟩ := own_sliceZ ho
            have HB4 := Lib.hid (HB3.out.trans (hb.mono HB3.out.size))
            have OB4 := Lib.hid (own_.own_below OB3.out hb)
            have hbs := HB4.out.size
            have O5 := Lib.hid ((own_.own_base ho HB3.out.size).alloc (.cells #[.int .i64 (k : Int)] 3))
            have B5 := Lib.hid (HB4.out.alloc hbs (.cells #[.int .i64 (k : Int)] 3))
            have P5 := Lib.hid (OB4.out.alloc (.cells #[.int .i64 (k : Int)] 3))
            have HAP := Lib.hid (show ∀ g, (Value.slice A1 P.length c1').ownBlock = some g → (Value.slice Ab n cb).ownBlock ≠ some g from fun gq e1 e2 => by
              have h3 := own_.row_ge ho gq e1
              have h4 := own_row_lt OB3.out gq e2
              omega)
            clear ho hb HB3 OB3
            go_wp2_with (at_builtin; refine wpList_append_any rfl (.tmp 66) (.tmp 68) 35 rfl w.heap.size 3 iI (.int .i64 0) 1 8 Try.underlying35 hiI hzI0 hzI1 hzI2 rfl (by decide) _ P.length (cellsI P) rfl O5.out ⟨W1.heap.size, 0, none⟩ 1 1 [.int .i64 (k : Int)] rfl rfl (cell_one_new _ _ _) (own_.one_cell _ rfl) (by unfold maxLen; omega) (by omega) (by rw [World.size_alloc]; omega) ?_; intro v6 w6 o6 g6 n6)
            obtain ⟨g1', c6, rfl⟩ := own_some o6 (by omega)
            rw [HCI.out] at o6
            have B6 := Lib.hid (B5.out.grown g6 B5.out.size (own_.row_ge O5.out))
            have P6 := Lib.hid (own_kept_at P5.out g6 (fun gq e1 e2 => HAP.out gq e2 e1))
            refine (IHc.out g1' c6 w6 B6.out.size B6.out o6).mono ?_
            rintro e W2 ⟨v2, rfl, ho2, hb2⟩
            obtain ⟨A2, c2', rfl⟩ := own_sliceZ ho2
            have B7 := Lib.hid (B6.out.trans (hb2.mono B6.out.size))
            have P7 := Lib.hid (own_.own_below P6.out hb2)
            have O7 := Lib.hid ho2
            clear ho2 hb2 o6 g6 n6 O5 B5 B6 P5 P6 HB4 OB4 HAP IHc hbs
            by_cases hless : c2 + dd < (S k).2
            · have HV := Lib.hid (HTC.out hless)
              have g8 : decide (pc + dd + c2 < pc + (S k).2) = true := decide_eq_true (by omega)
              have g8' : pc + dd + c2 < pc + (S k).2 := by omega
              have HO7 := Lib.hid (show W2.ownsRow w.heap.size 3 1 (.slice A2 n c2') n (cellsI (P ++ (S (k + 1)).1)) by rw [HV.out.1, ← HSE.out]; exact O7.out)
              have HV2 := Lib.hid (show pc + (S (k + 1)).2 = pc + dd + c2 by rw [HV.out.2]; show pc + (c2 + dd) = pc + dd + c2; omega)
              clear HTC HKC hless
              generalize S k = sk at *
              go_wp2_with fail
              go_roundw
              case rel => exact ⟨k + 1, by omega, by go_num, by rw [HV2.out], HO7.out, B7.out⟩
              case measure => simp [intOf]; omega
            · have HV := Lib.hid (HKC.out (by show (S k).2 ≤ c2 + dd; omega))
              have g8 : decide (pc + dd + c2 < pc + (S k).2) = false := decide_eq_false (by omega)
              have g8' : ¬ pc + dd + c2 < pc + (S k).2 := by omega
              clear HTC HKC hless
              generalize S k = sk at *
              go_wp2_with fail
              go_roundw
              case rel => exact ⟨k + 1, by omega, by go_num, by rw [HV.out], by rw [HV.out]; exact P7.out, B7.out⟩
              case measure => simp [intOf]; omega
        · have HV := Lib.hid (HSKk.out (Or.inl hc))
          rw [hc] at TC
          clear hc HSKk HTKk HKPk IHk a0 a1 a2 a3 a4 a5 q0 q1
          generalize S k = sk at *
          go_wp2_with fail
          refine wp_region_quiet_below (by kernel_rfl) (by kernel_rfl) ?_
          repeat (
            with_reducible refine wpQuiet_step (fun K hK => ?_)
            go_simp
            first
              | (refine hK _ ?_; clear hK K)
              | (apply Exists.intro
                 refine ⟨fun _ => ?_, hK _ ?_⟩
                 (first
                   | (go_at_call 59; with_reducible exact TC.out _ _))
                 clear hK K))
          with_reducible refine wpQuiet_nil ?_
          intro _ hw'
          obtain ⟨⟨dq, osq⟩, hw''⟩ := hw'
          subst hw''
          have hbl := (below_regrown wr dq osq)
          generalize Sort.grow (redrawn wr dq) osq = w3 at *
          have HB3 := Lib.hid (HB.out.trans (hbl.mono HB.out.size))
          have OB3 := Lib.hid (own_.own_below OB.out hbl)
          clear hbl HB OB TC TD
          go_wp2_with fail
          go_roundw
          case rel => exact ⟨k + 1, by omega, by go_num, by rw [HV.out], by rw [HV.out]; exact OB3.out, HB3.out⟩
          case measure => simp [intOf]; omega
      · obtain rfl : k = m := by omega
        go_wp2_with fail
        go_ret2
        exact ⟨_, rfl, own_.own_base OB.out HBB.out, HB.out⟩

set_option maxRecDepth 100000 in
set_option maxHeartbeats 4000000 in
theorem bestAssignment (zs ps : List Int) (g : Int) (A C : Option Addr) (n c m cq : Nat) (w : World) (hn : n ≤ 1048577) (hm : m ≤ 1048577) (h1 : RdZ 6 w w.heap.size A n zs) (h2 : RdZ 2 w w.heap.size C m ps) :
    Calls Try.prog 27 #[.slice A n c, .slice C m cq, .int .i64 g] w fun e w' => ∃ v, e = .returned (.tuple #[v, .int .i64 (beC zs n ps m g), .bool (akB zs n ps m g)]) ∧ w'.ownsRow w.heap.size 3 1 v (beV zs n ps m g).length (cellsI (beV zs n ps m g)) ∧ Below w.heap.size w w' := by
  have H1 := Lib.hid (asgs.asked15 zs ps g A C n c m cq w hn hm h1 h2)
  cases hq : akB zs n ps m g
  · have HE := Lib.hid (be_no hq)
    rw [hq] at H1
    clear hq h1 h2
    go_enter Try.func27, Try.ntmps27
    go_wp2_with fail
    refine H1.out.mono ?_
    rintro e w1 ⟨rfl, hb⟩
    have OE := Lib.hid (own_.own_base (own_emptyZ w1 3 1) hb.size)
    have BZ := Lib.hid (hb.alloc hb.size (.cells #[] 3))
    clear hb
    go_wp2_with fail
    go_ret3
    exact ⟨_, by rw [HE.out.2]; rfl, by rw [HE.out.1]; exact OE.out, BZ.out⟩
  rw [hq] at H1
  have HE := Lib.hid (be_yes hq)
  have HLV := Lib.hid (beV_length hq)
  have HB15 := Lib.hid (fun (w1 : World) (hb : Below w.heap.size w w1) => show Calls Try.prog 57 #[.slice A n c, .slice C m cq, .int .i64 g, .slice (some ⟨w1.heap.size, 0, none⟩) 0 0] (w1.alloc (.cells #[] 3)) (fun e w' => ∃ v, e = .returned (.tuple #[v, .int .i64 (0 + (bst (pst zs ps) g m n []).2)]) ∧ w'.ownsRow w.heap.size 3 1 v n (cellsI (bst (pst zs ps) g m n []).1) ∧ Below (w1.alloc (.cells #[] 3)).heap.size (w1.alloc (.cells #[] 3)) w') from by
    have hb2 := hb.alloc hb.size (.cells #[] 3)
    exact best15 hq n [] w.heap.size w1.heap.size 0 (w1.alloc (.cells #[] 3)) (Nat.zero_add n) rfl hb2.size (h1.next hb2) (h2.next hb2) (own_.own_base (own_emptyZ w1 3 1) hb.size))
  rw [HE.out.1] at HLV
  rw [HE.out.1, HE.out.2]
  generalize (bst (pst zs ps) g m n []) = R at *
  obtain ⟨xs, cs⟩ := R
  clear hq h1 h2
  go_enter Try.func27, Try.ntmps27
  go_wp2_with fail
  refine H1.out.mono ?_
  rintro e w1 ⟨rfl, hb⟩
  have HB2 := Lib.hid (hb.alloc hb.size (.cells #[] 3))
  have HX := Lib.hid (HB15.out w1 hb)
  clear hb HB15 H1 HE
  go_wp2_with fail
  refine HX.out.mono ?_
  rintro e W2 ⟨v, rfl, ho, hb⟩
  obtain ⟨A2, c2, rfl⟩ := own_sliceZ ho
  have HO := Lib.hid ho
  have HB3 := Lib.hid (HB2.out.trans (hb.mono HB2.out.size))
  have hcs : 0 + cs = cs := Int.zero_add cs
  clear ho hb HX HB2
  go_wp2_with fail
  go_ret3
  exact ⟨_, rfl, by have := HLV.out; show W2.ownsRow _ _ _ _ xs.length _; rw [show xs.length = n from this]; exact HO.out, HB3.out⟩
end Go.Proofs.Ytedocpocfpopgaa.asgy
