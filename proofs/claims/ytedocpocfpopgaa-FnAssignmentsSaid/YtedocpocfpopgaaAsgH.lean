/- impl's cheapestFrom. -/
import Derived.Test.YtedocpocfpopgaaAsgE
namespace Go.Proofs.Ytedocpocfpopgaa.asgh
open Go.RowKit Go.Proofs.Ytedocpocfpopgaa.ints Go.Proofs.Ytedocpocfpopgaa.lst Go.Proofs.Ytedocpocfpopgaa.in_ Go.Proofs.Ytedocpocfpopgaa.ats Go.Proofs.Ytedocpocfpopgaa.pos Go.Proofs.Ytedocpocfpopgaa.trk Go.Proofs.Ytedocpocfpopgaa.trkm Go.Proofs.Ytedocpocfpopgaa.trke Go.Proofs.Ytedocpocfpopgaa.intc Go.Proofs.Ytedocpocfpopgaa.asg Go.Proofs.Ytedocpocfpopgaa.asgb Go.Proofs.Ytedocpocfpopgaa.asge

theorem to_below {P : Program} {f : FuncId} {args : Array Value} {w : World} {v : Value} (h : Calls P f args w fun e w' => e = .returned v ∧ w = w') : Calls P f args w fun e w' => e = .returned v ∧ Below w.heap.size w w' :=
  h.mono fun _ _ ⟨a, b⟩ => ⟨a, b ▸ Below.refl _ _⟩
theorem to_below2 {P : Program} {f : FuncId} {args : Array Value} {w : World} {v : Value} (h : Calls P f args w fun e w' => e = .returned v ∧ w' = w) : Calls P f args w fun e w' => e = .returned v ∧ Below w.heap.size w w' :=
  h.mono fun _ _ ⟨a, b⟩ => ⟨a, b ▸ Below.refl _ _⟩
theorem len_snoc (P : List Int) (x : Int) : (((P ++ [x]).length : Nat) : Int) = (P.length : Int) + 1 := by simp
/-- The last track has been given its plot. -/
theorem last {sb tb n c m cq : Nat} {A C : Option Addr} {g : Int} {zs ps : List Int} (hq : akB zs n ps m g = true) (P : List Int) (w : World) (hl : P.length = n) (h : Sr sb tb n c m cq A C g zs ps w P) :
    Calls Try.prog 58 #[.pointer (some ⟨sb, 0, none⟩), .int .i64 (P.length : Int)] w fun e w' => ∃ v, e = .returned (.tuple #[v, .int .i64 (bst (pst zs ps) g m 0 P).2]) ∧ Ch w.heap.size w' v (bst (pst zs ps) g m 0 P).1 ∧ Below w.heap.size w w' := by
  have hg := (akB_yes hq).2.2.2
  have hm := (akB_yes hq).2.2.1
  have HR := Lib.hid (show (bst (pst zs ps) g m 0 P).2 = (frT P m : Int) * (g + 1) ∧ (bst (pst zs ps) g m 0 P).1 = [] from ⟨Int.mul_comm _ _, rfl⟩)
  have hin := mul_in hg (frT_le P m)
  have TC := Lib.hid (fun d0 os => Calls.regrown_of (to_below (countFree (Sort.grow (redrawn w d0) os) hm (h.next (below_regrown w d0 os)))))
  have TU := Lib.hid (fun w d0 os => Calls.regrown_of (to_below2 (asga.unpairedCost ((frT P m : Nat) : Int) g (Sort.grow (redrawn w d0) os) (by rw [Int.mul_comm]; omega) hg)))
  have f0 := h.f0
  have f2 := h.f2
  have g1 : ((P.length : Int) == (n : Int)) = true := by rw [hl]; simp
  generalize hPL : (P.length : Int) = pl at *
  generalize (bst (pst zs ps) g m 0 P) = R at *
  generalize ((frT P m : Nat) : Int) * (g + 1) = u at *
  generalize ((frT P m : Nat) : Int) = fr at *
  have HB := Lib.hid (Below.refl w.heap.size w)
  clear h hl hPL hq hin
  go_enter Try.func58, Try.ntmps58
  go_wp2_with fail
  have f0' := fun d0 os => cell_regrown f0 d0 os
  have f2' := fun d0 os => cell_regrown f2 d0 os
  clear f0 f2
  refine wp_region_quiet_below (by kernel_rfl) (by kernel_rfl) ?_
  repeat (
    with_reducible refine wpQuiet_step (fun K hK => ?_)
    go_simp
    first
      | (refine hK _ ?_; clear hK K)
      | (apply Exists.intro
         refine ⟨fun _ => ?_, hK _ ?_⟩
         (first
           | (go_at_call 76; with_reducible exact TC.out _ _)
           | (go_at_call 55; with_reducible exact TU.out _ _ _))
         clear hK K))
  with_reducible refine wpQuiet_nil ?_
  intro _ hw'
  obtain ⟨⟨dq, osq⟩, hw''⟩ := hw'
  subst hw''
  have hbl := (below_regrown w dq osq)
  clear f0' f2'
  generalize Sort.grow (redrawn w dq) osq = w3 at *
  go_wp2_with fail
  go_ret2
  exact ⟨.pointer none, by rw [HR.out.1]; rfl, by rw [HR.out.2]; rfl, hbl⟩

set_option maxRecDepth 100000 in
set_option maxHeartbeats 4000000 in
theorem cheapest {sb tb n c m cq : Nat} {A C : Option Addr} {g : Int} {zs ps : List Int} (hq : akB zs n ps m g = true) : ∀ (r : Nat) (P : List Int) (w : World), P.length + r = n → Sr sb tb n c m cq A C g zs ps w P →
    Calls Try.prog 58 #[.pointer (some ⟨sb, 0, none⟩), .int .i64 (P.length : Int)] w fun e w' => ∃ v, e = .returned (.tuple #[v, .int .i64 (bst (pst zs ps) g m r P).2]) ∧ Ch w.heap.size w' v (bst (pst zs ps) g m r P).1 ∧ Below w.heap.size w w' := by
  intro r
  induction r with
  | zero => intro P w hl h; exact last hq P w hl h
  | succ r ih =>
    intro P w hl h
    have hg := (akB_yes hq).2.2.2
    have hm := (akB_yes hq).2.2.1
    have hn6 := (tvB_yes (akB_yes hq).1).2
    have hi : P.length < n := by omega
    have hr6 : r ≤ 6 := by omega
    have IH1 := Lib.hid (fun (W : World) (h : Sr sb tb n c m cq A C g zs ps W P) => show Calls Try.prog 58 #[.pointer (some ⟨sb, 0, none⟩), .int .i64 ((P.length : Int) + 1)] W (fun e w' => ∃ v, e = .returned (.tuple #[v, .int .i64 (bst (pst zs ps) g m r (P ++ [-1])).2]) ∧ Ch W.heap.size w' v (bst (pst zs ps) g m r (P ++ [-1])).1 ∧ Below W.heap.size W w') from by
      have := ih (P ++ [-1]) W (by rw [List.length_append]; show P.length + 1 + r = n; omega) h.none
      rwa [len_snoc] at this)
    have IH2 := Lib.hid (fun (k : Nat) (W : World) (h : Sr sb tb n c m cq A C g zs ps W (P ++ [(k : Int)])) => show Calls Try.prog 58 #[.pointer (some ⟨sb, 0, none⟩), .int .i64 ((P.length : Int) + 1)] W (fun e w' => ∃ v, e = .returned (.tuple #[v, .int .i64 (bst (pst zs ps) g m r (P ++ [(k : Int)])).2]) ∧ Ch W.heap.size w' v (bst (pst zs ps) g m r (P ++ [(k : Int)])).1 ∧ Below W.heap.size W w') from by
      have := ih (P ++ [(k : Int)]) W (by rw [List.length_append]; show P.length + 1 + r = n; omega) h
      rwa [len_snoc] at this)
    have HBH := Lib.hid (fun (k : Nat) (hk : k < m) (hc : P.contains (k : Int) = false) (W : World) (h : Sr sb tb n c m cq A C g zs ps W P) => behind k (IH2.out k) W hk hc (by omega) h)
    have HIN := Lib.hid (fun (Q : List Int) => bst_in (m := m) (pst_nonneg zs ps) hg r Q)
    have HTD := Lib.hid (fun (k : Nat) (hk : k < m) => show 0 ≤ pst zs ps P.length k ∧ pst zs ps P.length k ≤ 19798 from asga.ds_pst zs ps P.length k ▸ asga.ds_in (ak_track hq hi) (ak_plot hq hk))
    have HT := Lib.hid (fun (k : Nat) (hk : k < m) (W : World) (d0 : Nat) (os : Array Obj) => Calls.regrown_of (show Calls Try.prog 48 #[.agg #[.int .i64 (fld 6 zs P.length 0), .int .i64 (fld 6 zs P.length 1), .int .i64 (fld 6 zs P.length 2), .int .i64 (fld 6 zs P.length 3), .int .i64 (fld 6 zs P.length 4), .int .i64 (fld 6 zs P.length 5)], .agg #[.int .i64 (fld 2 ps k 0), .int .i64 (fld 2 ps k 1)]] (Sort.grow (redrawn W d0) os) (fun e w' => e = .returned (.int .i64 (pst zs ps P.length k)) ∧ Below (Sort.grow (redrawn W d0) os).heap.size (Sort.grow (redrawn W d0) os) w') from asga.trackDistance (fld 6 zs P.length 0) (fld 6 zs P.length 1) (fld 6 zs P.length 2) (fld 6 zs P.length 3) (fld 6 zs P.length 4) (fld 6 zs P.length 5) (fld 2 ps k 0) (fld 2 ps k 1) (ak_track hq hi) (ak_plot hq hk) (Sort.grow (redrawn W d0) os)))
    obtain ⟨S, hS⟩ : ∃ S : Nat → List Int × Int, S = stp P (pst zs ps P.length) g (fun k => (bst (pst zs ps) g m r (P ++ [(k : Int)]))) (-1 :: (bst (pst zs ps) g m r (P ++ [-1])).1, (bst (pst zs ps) g m r (P ++ [-1])).2 + (g + 1)) := ⟨_, rfl⟩
    have HEND := (show (bst (pst zs ps) g m (r + 1) P) = S m by rw [hS]; rfl)
    have H0 := Lib.hid (show (S 0).1 = -1 :: (bst (pst zs ps) g m r (P ++ [-1])).1 ∧ (S 0).2 = (bst (pst zs ps) g m r (P ++ [-1])).2 + (g + 1) by rw [hS]; exact ⟨rfl, rfl⟩)
    have HSK := Lib.hid (fun (k : Nat) (h : P.contains (k : Int) = true ∨ g < pst zs ps P.length k) => show S (k + 1) = S k by rw [hS]; exact stp_skip h)
    have HTK := Lib.hid (fun (k : Nat) (h1 : P.contains (k : Int) = false) (h2 : pst zs ps P.length k ≤ g) (h3 : (bst (pst zs ps) g m r (P ++ [(k : Int)])).2 + pst zs ps P.length k < (S k).2) => show (S (k + 1)).1 = (k : Int) :: (bst (pst zs ps) g m r (P ++ [(k : Int)])).1 ∧ (S (k + 1)).2 = (bst (pst zs ps) g m r (P ++ [(k : Int)])).2 + pst zs ps P.length k by
      have := stp_take (q := fun k : Nat => (bst (pst zs ps) g m r (P ++ [(k : Int)]))) (a := (-1 :: (bst (pst zs ps) g m r (P ++ [-1])).1, (bst (pst zs ps) g m r (P ++ [-1])).2 + (g + 1))) h1 (show ¬ g < pst zs ps P.length k by omega) (by rw [← hS]; exact h3)
      rw [hS, this]; exact ⟨rfl, rfl⟩)
    have HKP := Lib.hid (fun (k : Nat) (h1 : P.contains (k : Int) = false) (h2 : pst zs ps P.length k ≤ g) (h3 : (S k).2 ≤ (bst (pst zs ps) g m r (P ++ [(k : Int)])).2 + pst zs ps P.length k) => show S (k + 1) = S k by
      have := stp_keep (q := fun k : Nat => (bst (pst zs ps) g m r (P ++ [(k : Int)]))) (a := (-1 :: (bst (pst zs ps) g m r (P ++ [-1])).1, (bst (pst zs ps) g m r (P ++ [-1])).2 + (g + 1))) h1 (show ¬ g < pst zs ps P.length k by omega) (by rw [← hS]; show ¬ (bst (pst zs ps) g m r (P ++ [(k : Int)])).2 + pst zs ps P.length k < (S k).2; omega)
      rw [hS]; exact this)
    rw [HEND]
    have HS := Lib.hid h
    have hin := HIN.out (P ++ [-1])
    have f0 := h.f0
    have HU := Lib.hid (fun W => show Calls Try.prog 55 #[.int .i64 1, .int .i64 g] W (fun e w' => e = .returned (.int .i64 (g + 1)) ∧ w' = W) from by
      have := asga.unpairedCost 1 g W (by omega) hg
      rwa [Int.one_mul] at this)
    have g1 : ((P.length : Int) == (n : Int)) = false := beq_eq_false_iff_ne.mpr (by omega)
    have e1 : IntKind.i64.wrap ((P.length : Int) + 1) = (P.length : Int) + 1 := IntWalk.i64_in _ (by omega)
    have e2 : IntKind.i64.wrap ((bst (pst zs ps) g m r (P ++ [-1])).2 + (g + 1)) = (bst (pst zs ps) g m r (P ++ [-1])).2 + (g + 1) := IntWalk.i64_in _ (by omega)
    have hpl0 : (0 : Int) ≤ (P.length : Int) := Int.natCast_nonneg _
    have hpln : (P.length : Int) < (n : Int) := by omega
    have HIP := Lib.hid hi
    clear h ih hq hl hS HEND IH2 hi
    generalize (bst (pst zs ps) g m r (P ++ [-1])) = R1 at *
    obtain ⟨xs1, c1⟩ := R1
    go_enter Try.func58, Try.ntmps58
    go_wp2_with fail
    refine (IH1.out w HS.out).mono ?_
    rintro e W1 ⟨v, rfl, hch, hb⟩
    obtain ⟨a1, rfl⟩ := Ch.ptr hch
    have HB1 := Lib.hid hb
    have HC1 := Lib.hid ((hch.cons hb.size (-1)))
    have HB2 := Lib.hid (hb.alloc hb.size (.cells #[.int .i64 (-1), .pointer a1] 80))
    have hsb := HS.out.s.2
    have f2 : W1.cell? ⟨sb, 2, none⟩ = some (.int .i64 g) := (hb.cell (p := ⟨sb, 2, none⟩) hsb).trans HS.out.f2
    have f2' : (W1.alloc (.cells #[.int .i64 (-1), .pointer a1] 80)).cell? ⟨sb, 2, none⟩ = some (.int .i64 g) := (HB2.out.cell (p := ⟨sb, 2, none⟩) hsb).trans HS.out.f2
    have f1' : (W1.alloc (.cells #[.int .i64 (-1), .pointer a1] 80)).cell? ⟨sb, 1, none⟩ = some (.slice C m cq) := (HB2.out.cell (p := ⟨sb, 1, none⟩) hsb).trans HS.out.f1
    clear hch hb f0 IH1
    go_wp2_with fail
    refine (HU.out _).mono ?_
    rintro e w' ⟨rfl, hw'⟩
    have f1'' := hw' ▸ f1'
    have HC2 := Lib.hid (show Ch w.heap.size w' (.pointer (some ⟨W1.heap.size, 0, none⟩)) (-1 :: xs1) from hw' ▸ HC1.out)
    have HB3 := Lib.hid (show Below w.heap.size w w' from hw' ▸ HB2.out)
    clear hw' f1' f2' HC1 HB2 HB1 f2
    go_wp2_with fail
    go_loopw [8, 9, 49] (fun b q j wr => ∃ k : Nat, k ≤ m ∧ j = .int .i64 k ∧ q = .int .i64 (S k).2 ∧ Ch w.heap.size wr b (S k).1 ∧ Below w.heap.size w wr) (fun _ _ j _ => m - (intOf j).toNat)
    case atStart => exact ⟨0, Nat.zero_le _, rfl, by rw [H0.out.2], by rw [H0.out.1]; exact HC2.out, HB3.out⟩
    case round =>
      obtain ⟨k, hk, rfl, rfl, hch, hb⟩ := hrel
      obtain ⟨ab, rfl⟩ := Ch.ptr hch
      have HCk := Lib.hid hch
      have HB := Lib.hid hb
      have HSr := Lib.hid (HS.out.next hb)
      clear hch hb HC2 HB3 f1''
      by_cases hlt : k < m
      · obtain ⟨b2, o2, rfl, l2, q0, q1⟩ := asga.cells2 (HSr.out.p) hlt
        have hlt2 : (k : Int) < (m : Int) := by omega
        have hk0 : (0 : Int) ≤ (k : Int) := Int.natCast_nonneg _
        have TDk := Lib.hid (HT.out k hlt)
        have hdd := HTD.out k hlt
        have HSKk := Lib.hid (HSK.out k)
        have HTKk := Lib.hid (HTK.out k)
        have HKPk := Lib.hid (HKP.out k)
        have HBHk := Lib.hid (HBH.out k hlt)
        have hin2 := HIN.out (P ++ [(k : Int)])
        have PB := Lib.hid (newS 30 #[.int .i64 (fld 2 ps k 0), .int .i64 (fld 2 ps k 1)] wr)
        generalize fld 2 ps k 0 = v0 at *
        generalize fld 2 ps k 1 = v1 at *
        go_upto_region 8 with fail
        clear q0 q1
        generalize wr.alloc (.cells #[.int .i64 v0, .int .i64 v1] 30) = V0 at *
        have HB4 := Lib.hid (HB.out.trans (PB.out.1.mono HB.out.size))
        have HC4 := Lib.hid (Ch.next PB.out.1 HCk.out)
        have HS4 := Lib.hid (HSr.out.next PB.out.1)
        have p0 : V0.cell? ⟨wr.heap.size, 0, none⟩ = some (.int .i64 v0) := PB.out.cell 0
        have p1 : V0.cell? ⟨wr.heap.size, 1, none⟩ = some (.int .i64 v1) := PB.out.cell 1
        obtain ⟨b1, o1, hA, -, a0, a1', a2, a3, a4, a5⟩ := cellsE HS4.out.z HIP.out
        have f0 : V0.cell? ⟨sb, 0, none⟩ = some (.slice (some ⟨b1, o1, none⟩) n c) := hA ▸ HS4.out.f0
        generalize fld 6 zs P.length 0 = u0 at *
        generalize fld 6 zs P.length 1 = u1 at *
        generalize fld 6 zs P.length 2 = u2 at *
        generalize fld 6 zs P.length 3 = u3 at *
        generalize fld 6 zs P.length 4 = u4 at *
        generalize fld 6 zs P.length 5 = u5 at *
        clear PB HB HCk HSr hA
        have f0' := fun d0 os => cell_regrown f0 d0 os
        have p0' := fun d0 os => cell_regrown p0 d0 os
        have p1' := fun d0 os => cell_regrown p1 d0 os
        have a0' := fun d0 os => cell_regrown a0 d0 os
        have a1q := fun d0 os => cell_regrown a1' d0 os
        have a2' := fun d0 os => cell_regrown a2 d0 os
        have a3' := fun d0 os => cell_regrown a3 d0 os
        have a4' := fun d0 os => cell_regrown a4 d0 os
        have a5' := fun d0 os => cell_regrown a5 d0 os
        clear f0 p0 p1 a0 a1' a2 a3 a4 a5
        refine wp_region_quiet_below (by kernel_rfl) (by kernel_rfl) ?_
        repeat (
          with_reducible refine wpQuiet_step (fun K hK => ?_)
          go_simp
          first
            | (refine hK _ ?_; clear hK K)
            | (apply Exists.intro
               refine ⟨fun _ => ?_, hK _ ?_⟩
               (first
                 | (go_at_call 48; with_reducible exact TDk.out _ _ _))
               clear hK K))
        with_reducible refine wpQuiet_nil ?_
        intro _ hw'
        obtain ⟨⟨dq, osq⟩, hw''⟩ := hw'
        subst hw''
        have hbl := (below_regrown V0 dq osq)
        clear f0' p0' p1' a0' a1q a2' a3' a4' a5'
        generalize Sort.grow (redrawn V0 dq) osq = V1 at *
        have HB5 := Lib.hid (HB4.out.trans (hbl.mono HB4.out.size))
        have HC5 := Lib.hid (Ch.next hbl HC4.out)
        have HS5 := Lib.hid (HS4.out.next hbl)
        have f3 := HS5.out.f3
        have f2 := HS5.out.f2
        have c0 := HS5.out.cell hlt
        clear hbl HB4 HC4 HS4 TDk
        generalize pst zs ps P.length k = dd at *
        cases hc : P.contains (k : Int)
        · rw [hc] at c0
          by_cases hd : g < dd
          · have HV := Lib.hid (HSKk.out (Or.inr hd))
            clear hc HSKk HTKk HKPk HBHk
            generalize S k = sk at *
            go_wp2_with fail
            go_roundw
            case rel => exact ⟨k + 1, by omega, by go_num, by rw [HV.out], by rw [HV.out]; exact HC5.out, HB5.out⟩
            case measure => simp [intOf]; omega
          · have hd2 : dd ≤ g := by omega
            have HBC := Lib.hid (HBHk.out hc V1 HS5.out)
            have HTC := Lib.hid (HTKk.out hc hd2)
            have HKC := Lib.hid (HKPk.out hc hd2)
            clear hc HSKk HTKk HKPk HBHk HTK HKP HBH
            generalize (bst (pst zs ps) g m r (P ++ [(k : Int)])) = R2 at *
            obtain ⟨xs2, c2⟩ := R2
            have e3 : IntKind.i64.wrap (c2 + dd) = c2 + dd := IntWalk.i64_in _ (by
              have h1 := hin2.1
              have h2 := hin2.2.1
              have h3 : (0 : Int) ≤ c2 := h1
              have h4 : c2 ≤ 1001 * ((r + m : Nat) : Int) := h2
              omega)
            go_wp2_with fail
            refine HBC.out.mono ?_
            rintro e V2 ⟨v2, rfl, hch, hb⟩
            obtain ⟨ac, rfl⟩ := Ch.ptr hch
            have HB6 := Lib.hid (HB5.out.trans (hb.mono HB5.out.size))
            have HC6 := Lib.hid (Ch.next hb HC5.out)
            have HN6 := Lib.hid ((hch.base HB5.out.size).cons HB6.out.size (k : Int))
            have HB7 := Lib.hid (HB6.out.alloc HB6.out.size (.cells #[.int .i64 (k : Int), .pointer ac] 80))
            clear hch hb f3 f2 c0 HB5 HC5 HBC
            by_cases hless : c2 + dd < (S k).2
            · have HV := Lib.hid (HTC.out hless)
              clear HTC HKC
              generalize S k = sk at *
              go_wp2_with fail
              go_roundw
              case rel => exact ⟨k + 1, by omega, by go_num, by rw [HV.out.2], by rw [HV.out.1]; exact HN6.out, HB7.out⟩
              case measure => simp [intOf]; omega
            · have HV := Lib.hid (HKC.out (by show (S k).2 ≤ c2 + dd; omega))
              clear HTC HKC
              generalize S k = sk at *
              go_wp2_with fail
              go_roundw
              case rel => exact ⟨k + 1, by omega, by go_num, by rw [HV.out], by rw [HV.out]; exact HC6.out, HB6.out⟩
              case measure => simp [intOf]; omega
        · rw [hc] at c0
          have HV := Lib.hid (HSKk.out (Or.inl hc))
          clear hc HSKk HTKk HKPk HBHk
          generalize S k = sk at *
          go_wp2_with fail
          go_roundw
          case rel => exact ⟨k + 1, by omega, by go_num, by rw [HV.out], by rw [HV.out]; exact HC5.out, HB5.out⟩
          case measure => simp [intOf]; omega
      · obtain rfl : k = m := by omega
        go_wp2_with fail
        go_ret2
        exact ⟨_, rfl, HCk.out, HB.out⟩
end Go.Proofs.Ytedocpocfpopgaa.asgh
