/- impl's nearestPlot, NearestAssignment, unpairedPlots, FreePlots. -/
import Derived.Test.YtedocpocfpopgaaAsgC
namespace Go.Proofs.Ytedocpocfpopgaa.asgg
open Go.RowKit Go.Proofs.Ytedocpocfpopgaa.ints Go.Proofs.Ytedocpocfpopgaa.lst Go.Proofs.Ytedocpocfpopgaa.in_ Go.Proofs.Ytedocpocfpopgaa.ats Go.Proofs.Ytedocpocfpopgaa.pos Go.Proofs.Ytedocpocfpopgaa.trk Go.Proofs.Ytedocpocfpopgaa.trkm Go.Proofs.Ytedocpocfpopgaa.trke Go.Proofs.Ytedocpocfpopgaa.intc Go.Proofs.Ytedocpocfpopgaa.asg Go.Proofs.Ytedocpocfpopgaa.rws

set_option maxRecDepth 100000 in
set_option maxHeartbeats 4000000 in
theorem unpaired (xs : List Int) (C E : Option Addr) (m cq e0 ce : Nat) (w : World) (hm : m ≤ 1048577) (he0 : e0 ≤ 1048577) (h3 : RdI w w.heap.size E e0 xs) :
    Calls Try.prog 62 #[.slice E e0 ce, .slice C m cq] w fun e w' => ∃ v, e = .returned v ∧ w'.ownsRow w.heap.size 3 1 v (unT xs m).length (cellsI (unT xs m)) ∧ Below w.heap.size w w' := by
  obtain ⟨iI, hiI, hzI0, hzI1, hzI2⟩ := info_parts infoI
  have HC := Lib.hid (fun (k : Nat) (W : World) (hb : Below w.heap.size w W) => asga.containsI xs (k : Int) E e0 ce W he0 (h3.next hb))
  have OE := Lib.hid (own_emptyZ w 3 1)
  have BE := Lib.hid ((Below.refl w.heap.size w).alloc (Nat.le_refl _) (.cells #[] 3))
  clear h3
  go_enter Try.func62, Try.ntmps62
  go_wp2_with fail
  go_loopw [5, 9] (fun v i wr => ∃ k : Nat, k ≤ m ∧ i = .int .i64 k ∧ wr.ownsRow w.heap.size 3 1 v (unT xs k).length (cellsI (unT xs k)) ∧ Below w.heap.size w wr) (fun _ i _ => m - (intOf i).toNat)
  case atStart => exact ⟨0, Nat.zero_le _, rfl, World.ownsRow_nil .., Below.refl _ _⟩
  case round =>
    obtain ⟨k, hk, rfl, hO, hb⟩ := hrel
    clear OE BE
    obtain ⟨A5, c5, rfl⟩ := own_sliceZ hO
    have HLEN := Lib.hid (unT_le xs k)
    have HCk := Lib.hid (HC.out k wr hb)
    have CY := Lib.hid (fun h => un_yes (P := xs) (k := k) h)
    have CN := Lib.hid (fun h => un_no (P := xs) (k := k) h)
    have OK := Lib.hid hO
    have BK := Lib.hid hb
    have hwz := hb.size
    clear hO hb
    by_cases hlt : k < m
    · have hlt2 : (k : Int) < (m : Int) := by omega
      cases hc : xs.contains (k : Int)
      · have HT := Lib.hid (CN.out hc)
        rw [hc] at HCk
        have hlen := HLEN.out
        have O5 := Lib.hid (OK.out.alloc (.cells #[.int .i64 (k : Int)] 3))
        have B5 := Lib.hid (BK.out.alloc hwz (.cells #[.int .i64 (k : Int)] 3))
        clear hc CY CN
        generalize unT xs k = L at *
        go_wp2_with fail
        refine HCk.out.mono ?_
        rintro e w' ⟨rfl, hw'⟩
        obtain rfl : wr = w' := hw'.symm
        clear hw'
        go_wp2_with (at_builtin; refine wpList_append_any rfl (.tmp 16) (.tmp 18) 35 rfl w.heap.size 3 iI (.int .i64 0) 1 8 Try.underlying35 hiI hzI0 hzI1 hzI2 rfl (by decide) _ L.length (cellsI L) rfl O5.out ⟨wr.heap.size, 0, none⟩ 1 1 [.int .i64 (k : Int)] rfl rfl (cell_one_new _ _ _) (own_.one_cell _ rfl) (by unfold maxLen; omega) (by omega) (by rw [World.size_alloc]; omega) ?_; intro v6 w6 o6 g6 n6; obtain ⟨A6, c6, rfl⟩ := own_sliceZ o6)
        have O6 := Lib.hid (show w6.ownsRow w.heap.size 3 1 (.slice A6 (L.length + 1) c6) (unT xs (k + 1)).length (cellsI (unT xs (k + 1))) by rw [HT.out]; exact own_growI o6)
        have B6 := Lib.hid (B5.out.grown g6 B5.out.size (own_.row_ge O5.out))
        clear o6 g6 n6 O5 B5
        go_wp2_with fail
        go_roundw
        case rel => exact ⟨k + 1, by omega, by go_num, O6.out, B6.out⟩
        case measure => simp [intOf]; omega
      · have HT := Lib.hid (CY.out hc)
        rw [hc] at HCk
        clear hc CY CN
        go_wp2_with fail
        refine HCk.out.mono ?_
        rintro e w' ⟨rfl, hw'⟩
        obtain rfl : wr = w' := hw'.symm
        clear hw'
        go_wp2_with fail
        go_roundw
        case rel => exact ⟨k + 1, by omega, by go_num, by rw [HT.out]; exact OK.out, BK.out⟩
        case measure => simp [intOf]; omega
    · obtain rfl : k = m := by omega
      go_wp2_with fail
      go_ret
      exact ⟨_, rfl, OK.out, BK.out⟩

set_option maxRecDepth 100000 in
set_option maxHeartbeats 4000000 in
theorem freePlots (zs ps xs : List Int) (g : Int) (A C E : Option Addr) (n c m cq e0 ce : Nat) (w : World) (hn : n ≤ 1048577) (hm : m ≤ 1048577) (he0 : e0 ≤ 1048577) (hce : e0 ≤ ce) (h1 : RdZ 6 w w.heap.size A n zs) (h2 : RdZ 2 w w.heap.size C m ps) (h3 : RdI w w.heap.size E e0 xs) :
    Calls Try.prog 36 #[.slice A n c, .slice C m cq, .int .i64 g, .slice E e0 ce] w fun e w' => ∃ v, e = .returned (.tuple #[v, .bool (agB zs n ps m g xs e0)]) ∧ w'.ownsRow w.heap.size 3 1 v (frV zs n ps m g xs e0).length (cellsI (frV zs n ps m g xs e0)) ∧ Below w.heap.size w w' := by
  have H1 := Lib.hid (asgc.isAssignment zs ps xs g A C E n c m cq e0 ce w hn hm he0 hce h1 h2 h3)
  cases hq : agB zs n ps m g xs e0
  · have HE := Lib.hid (frV_no hq)
    rw [hq] at H1
    clear hq h1 h2 h3
    go_enter Try.func36, Try.ntmps36
    go_wp2_with fail
    refine H1.out.mono ?_
    rintro e w1 ⟨rfl, hb⟩
    have HB := Lib.hid hb
    clear hb
    go_wp2_with fail
    go_ret2
    exact ⟨_, rfl, by rw [HE.out]; exact World.ownsRow_nil .., HB.out⟩
  have HE := Lib.hid (frV_yes hq)
  rw [hq] at H1
  have H2 := Lib.hid (fun W (hb : Below w.heap.size w W) => unpaired xs C E m cq e0 ce W hm he0 (h3.next hb))
  clear hq h1 h2 h3
  go_enter Try.func36, Try.ntmps36
  go_wp2_with fail
  refine H1.out.mono ?_
  rintro e w1 ⟨rfl, hb⟩
  have HB := Lib.hid hb
  clear hb H1
  go_wp2_with fail
  refine (H2.out w1 HB.out).mono ?_
  rintro e w2 ⟨v, rfl, ho, hb⟩
  obtain ⟨A5, c5, rfl⟩ := own_sliceZ ho
  have HO := Lib.hid (own_.own_base ho HB.out.size)
  have HB2 := Lib.hid (HB.out.trans (hb.mono HB.out.size))
  clear ho hb H2
  go_wp2_with fail
  go_ret2
  exact ⟨_, rfl, by rw [HE.out]; exact HO.out, HB2.out⟩

set_option maxRecDepth 100000 in
set_option maxHeartbeats 4000000 in
theorem nearestPlot (ps P : List Int) (i s x y h l g : Int) (C E : Option Addr) (m cq e0 ce : Nat) (w : World) (hm : m ≤ 5) (he0 : e0 ≤ 1048577) (hg : 0 ≤ g ∧ g ≤ 1000) (hA : pB x y = true) (hP : ∀ k, k < m → pB (fld 2 ps k 0) (fld 2 ps k 1) = true) (h2 : RdZ 2 w w.heap.size C m ps) (h3 : RdI w w.heap.size E e0 P) :
    Calls Try.prog 60 #[.agg #[.int .i64 i, .int .i64 s, .int .i64 x, .int .i64 y, .int .i64 h, .int .i64 l], .slice C m cq, .int .i64 g, .slice E e0 ce] w fun e w' => e = .returned (.int .i64 (nrK (fun k => dst x y (fld 2 ps k 0) (fld 2 ps k 1)) g P m)) ∧ Below w.heap.size w w' := by
  have S0 := Lib.hid (newS 28 #[.int .i64 i, .int .i64 s, .int .i64 x, .int .i64 y, .int .i64 h, .int .i64 l] w)
  have HC := Lib.hid (fun (k : Nat) (W : World) (hb : Below w.heap.size w W) => asga.containsI P (k : Int) E e0 ce W he0 (h3.next hb))
  have HR2 := Lib.hid h2
  obtain ⟨D, hD⟩ : ∃ D : Nat → Int, (fun k => dst x y (fld 2 ps k 0) (fld 2 ps k 1)) = D := ⟨_, rfl⟩
  rw [hD]
  have hDk : ∀ k, D k = asga.ds x y (fld 2 ps k 0) (fld 2 ps k 1) := fun k => by rw [← hD]; rfl
  have HT := Lib.hid (fun k (hk : k < m) (W : World) => show Calls Try.prog 48 #[.agg #[.int .i64 i, .int .i64 s, .int .i64 x, .int .i64 y, .int .i64 h, .int .i64 l], .agg #[.int .i64 (fld 2 ps k 0), .int .i64 (fld 2 ps k 1)]] W (fun e w' => e = .returned (.int .i64 (D k)) ∧ Below W.heap.size W w') from by rw [hDk]; exact asga.trackDistance i s x y h l (fld 2 ps k 0) (fld 2 ps k 1) hA (hP k hk) W)
  have HD0 := Lib.hid (show ∀ k, 0 ≤ D k from fun k => by rw [hDk]; unfold asga.ds; omega)
  have HY := Lib.hid (fun k => nr_yes (D := D) (g := g) (P := P) (k := k))
  have HN := Lib.hid (fun k => nr_no (D := D) (g := g) (P := P) (k := k))
  have HLS := Lib.hid (ls_in (P := P) HD0.out hg)
  have HZ := Lib.hid (show nrK D g P 0 = -1 ∧ lsT D g P 0 = g + 1 from ⟨rfl, rfl⟩)
  have HDD := Lib.hid (fun k (hk : k < m) => show D k ≤ 19798 by rw [hDk]; exact (asga.ds_in hA (hP k hk)).2)
  clear hD hDk
  have e1 : IntKind.i64.wrap (g + 1) = g + 1 := IntWalk.i64_in _ (by omega)
  clear h2 h3 hA hP
  go_enter Try.func60, Try.ntmps60
  go_wp2_with fail
  generalize w.alloc (.cells #[.int .i64 i, .int .i64 s, .int .i64 x, .int .i64 y, .int .i64 h, .int .i64 l] 28) = W0 at *
  go_loopw [9, 10, 18] (fun b q j wr => ∃ k : Nat, k ≤ m ∧ j = .int .i64 k ∧ b = .int .i64 (nrK D g P k) ∧ q = .int .i64 (lsT D g P k) ∧ Below W0.heap.size W0 wr) (fun _ _ j _ => m - (intOf j).toNat)
  case atStart => exact ⟨0, Nat.zero_le _, rfl, by rw [HZ.out.1], by rw [HZ.out.2], Below.refl _ _⟩
  case round =>
    obtain ⟨k, hk, rfl, rfl, rfl, hb⟩ := hrel
    have HB := Lib.hid hb
    have HBW := Lib.hid (S0.out.1.trans (hb.mono S0.out.1.size))
    by_cases hlt : k < m
    · obtain ⟨b2, o2, rfl, l2, q0, q1⟩ := asga.cells2 (HR2.out.next HBW.out) hlt
      have hlt2 : (k : Int) < (m : Int) := by omega
      have HTk := Lib.hid (HT.out k hlt)
      have HYk := Lib.hid (HY.out k)
      have HNk := Lib.hid (HN.out k)
      have hls := HLS.out k
      have hdd := HDD.out k hlt
      have hd0 := HD0.out k
      have PB := Lib.hid (newS 30 #[.int .i64 (fld 2 ps k 0), .int .i64 (fld 2 ps k 1)] wr)
      clear hb
      generalize fld 2 ps k 0 = v0 at *
      generalize fld 2 ps k 1 = v1 at *
      go_upto_region 5 with fail
      clear q0 q1
      generalize wr.alloc (.cells #[.int .i64 v0, .int .i64 v1] 30) = V0 at *
      have HB2 := Lib.hid (HB.out.trans (PB.out.1.mono HB.out.size))
      have HBW2 := Lib.hid (S0.out.1.trans (HB2.out.mono S0.out.1.size))
      have p0 : V0.cell? ⟨wr.heap.size, 0, none⟩ = some (.int .i64 v0) := PB.out.cell 0
      have p1 : V0.cell? ⟨wr.heap.size, 1, none⟩ = some (.int .i64 v1) := PB.out.cell 1
      have t0 : V0.cell? ⟨w.heap.size, 0, none⟩ = some (.int .i64 i) := (S0.out.old HB2.out).cell 0
      have t1 : V0.cell? ⟨w.heap.size, 1, none⟩ = some (.int .i64 s) := (S0.out.old HB2.out).cell 1
      have t2 : V0.cell? ⟨w.heap.size, 2, none⟩ = some (.int .i64 x) := (S0.out.old HB2.out).cell 2
      have t3 : V0.cell? ⟨w.heap.size, 3, none⟩ = some (.int .i64 y) := (S0.out.old HB2.out).cell 3
      have t4 : V0.cell? ⟨w.heap.size, 4, none⟩ = some (.int .i64 h) := (S0.out.old HB2.out).cell 4
      have t5 : V0.cell? ⟨w.heap.size, 5, none⟩ = some (.int .i64 l) := (S0.out.old HB2.out).cell 5
      go_wp2_with fail
      refine (HTk.out V0).mono ?_
      rintro e V1 ⟨rfl, hb⟩
      have HB3 := Lib.hid (HB2.out.trans (hb.mono HB2.out.size))
      have HBW3 := Lib.hid (HBW2.out.trans (hb.mono HBW2.out.size))
      have HCk := Lib.hid (HC.out k V1 HBW3.out)
      clear hb p0 p1 t0 t1 t2 t3 t4 t5 PB HB2 HBW2 HB HBW HTk
      generalize D k = dd at *
      by_cases hd : dd < lsT D g P k
      · have g1 : decide (dd < lsT D g P k) = true := decide_eq_true hd
        cases hc : P.contains (k : Int)
        · have HV := Lib.hid (HYk.out hc hd)
          rw [hc] at HCk
          clear hc hd
          generalize nrK D g P k = b at *
          generalize lsT D g P k = q at *
          go_wp2_with fail
          refine HCk.out.mono ?_
          rintro e w' ⟨rfl, rfl⟩
          go_wp2_with fail
          go_roundw
          case rel => exact ⟨k + 1, by omega, by go_num, by rw [HV.out.1], by rw [HV.out.2], HB3.out⟩
          case measure => simp [intOf]; omega
        · have HV := Lib.hid (HNk.out (Or.inl hc))
          rw [hc] at HCk
          clear hc hd
          generalize nrK D g P k = b at *
          generalize lsT D g P k = q at *
          go_wp2_with fail
          refine HCk.out.mono ?_
          rintro e w' ⟨rfl, rfl⟩
          go_wp2_with fail
          go_roundw
          case rel => exact ⟨k + 1, by omega, by go_num, by rw [HV.out.1], by rw [HV.out.2], HB3.out⟩
          case measure => simp [intOf]; omega
      · have g1 : decide (dd < lsT D g P k) = false := decide_eq_false hd
        have HV := Lib.hid (HNk.out (Or.inr (by omega)))
        clear hd
        generalize nrK D g P k = b at *
        generalize lsT D g P k = q at *
        go_wp2_with fail
        go_roundw
        case rel => exact ⟨k + 1, by omega, by go_num, by rw [HV.out.1], by rw [HV.out.2], HB3.out⟩
        case measure => simp [intOf]; omega
    · obtain rfl : k = m := by omega
      clear hb
      go_wp2_with fail
      go_ret
      exact ⟨rfl, HBW.out⟩

set_option maxRecDepth 100000 in
set_option maxHeartbeats 4000000 in
theorem nearestAssignment (zs ps : List Int) (g : Int) (A C : Option Addr) (n c m cq : Nat) (w : World) (hn : n ≤ 1048577) (hm : m ≤ 1048577) (h1 : RdZ 6 w w.heap.size A n zs) (h2 : RdZ 2 w w.heap.size C m ps) :
    Calls Try.prog 34 #[.slice A n c, .slice C m cq, .int .i64 g] w fun e w' => ∃ v, e = .returned (.tuple #[v, .bool (akB zs n ps m g)]) ∧ w'.ownsRow w.heap.size 3 1 v (neV zs n ps m g).length (cellsI (neV zs n ps m g)) ∧ Below w.heap.size w w' := by
  obtain ⟨iI, hiI, hzI0, hzI1, hzI2⟩ := info_parts infoI
  have H1 := Lib.hid (asga.canAssign zs ps g A C n c m cq w hn hm h1 h2)
  cases hq : akB zs n ps m g
  · have HE := Lib.hid (neV_no hq)
    rw [hq] at H1
    clear hq h1 h2
    go_enter Try.func34, Try.ntmps34
    go_wp2_with fail
    refine H1.out.mono ?_
    rintro e w1 ⟨rfl, hb⟩
    have HB := Lib.hid hb
    clear hb
    go_wp2_with fail
    go_ret2
    exact ⟨_, rfl, by rw [HE.out]; exact World.ownsRow_nil .., HB.out⟩
  rw [hq] at H1
  have HE := Lib.hid (neV_yes hq)
  have hm5 := (akB_yes hq).2.2.1
  have hg5 := (akB_yes hq).2.2.2
  have hn6 := (tvB_yes (akB_yes hq).1).2
  have HNP := Lib.hid (fun i (hi : i < n) (P : List Int) (E : Option Addr) (e0 ce : Nat) (he : e0 ≤ 1048577) (W : World) (hb : Below w.heap.size w W) (h3 : RdI W W.heap.size E e0 P) => show Calls Try.prog 60 #[.agg #[.int .i64 (fld 6 zs i 0), .int .i64 (fld 6 zs i 1), .int .i64 (fld 6 zs i 2), .int .i64 (fld 6 zs i 3), .int .i64 (fld 6 zs i 4), .int .i64 (fld 6 zs i 5)], .slice C m cq, .int .i64 g, .slice E e0 ce] W (fun e w' => e = .returned (.int .i64 (nrK (pst zs ps i) g P m)) ∧ Below W.heap.size W w') from nearestPlot ps P (fld 6 zs i 0) (fld 6 zs i 1) (fld 6 zs i 2) (fld 6 zs i 3) (fld 6 zs i 4) (fld 6 zs i 5) g C E m cq e0 ce W hm5 he hg5 (ak_track hq hi) (fun k hk => ak_plot hq hk) (h2.next hb) h3)
  have HR1 := Lib.hid h1
  have NS := Lib.hid (fun k => show neT (pst zs ps) g m (k + 1) = neT (pst zs ps) g m k ++ [nrK (pst zs ps k) g (neT (pst zs ps) g m k) m] from rfl)
  clear hq h1 h2
  go_enter Try.func34, Try.ntmps34
  go_wp2_with fail
  refine H1.out.mono ?_
  rintro e w1 ⟨rfl, hb⟩
  have HB1 := Lib.hid hb
  clear hb H1
  go_wp2_with fail
  go_loopw [8, 18] (fun v i wr => ∃ k : Nat, k ≤ n ∧ i = .int .i64 k ∧ wr.ownsRow w.heap.size 3 1 v (neT (pst zs ps) g m k).length (cellsI (neT (pst zs ps) g m k)) ∧ Below w.heap.size w wr) (fun _ i _ => n - (intOf i).toNat)
  case atStart => exact ⟨0, Nat.zero_le _, rfl, World.ownsRow_nil .., HB1.out⟩
  case round =>
    obtain ⟨k, hk, rfl, hO, hb⟩ := hrel
    obtain ⟨A5, c5, rfl⟩ := own_sliceZ hO
    have OK := Lib.hid hO
    have HB := Lib.hid hb
    have hwz := hb.size
    clear hO hb HB1
    by_cases hlt : k < n
    · obtain ⟨b1, o1, rfl, l1, a0, a1, a2, a3, a4, a5⟩ := cellsE (HR1.out.next HB.out) hlt
      have hlt2 : (k : Int) < (n : Int) := by omega
      have HLEN := Lib.hid (neT_length (pst zs ps) g m k)
      have HP := Lib.hid (HNP.out k hlt (neT (pst zs ps) g m k) A5 (neT (pst zs ps) g m k).length c5 (by rw [HLEN.out]; omega))
      have HT := Lib.hid (NS.out k)
      have TB := Lib.hid (newS 28 #[.int .i64 (fld 6 zs k 0), .int .i64 (fld 6 zs k 1), .int .i64 (fld 6 zs k 2), .int .i64 (fld 6 zs k 3), .int .i64 (fld 6 zs k 4), .int .i64 (fld 6 zs k 5)] wr)
      generalize nrK (pst zs ps k) g (neT (pst zs ps) g m k) m = r at *
      generalize neT (pst zs ps) g m k = L at *
      generalize fld 6 zs k 0 = u0 at *
      generalize fld 6 zs k 1 = u1 at *
      generalize fld 6 zs k 2 = u2 at *
      generalize fld 6 zs k 3 = u3 at *
      generalize fld 6 zs k 4 = u4 at *
      generalize fld 6 zs k 5 = u5 at *
      go_upto_region 7 with fail
      clear a0 a1 a2 a3 a4 a5
      generalize wr.alloc (.cells #[.int .i64 u0, .int .i64 u1, .int .i64 u2, .int .i64 u3, .int .i64 u4, .int .i64 u5] 28) = V0 at *
      have HB2 := Lib.hid (HB.out.trans (TB.out.1.mono HB.out.size))
      have O2 := Lib.hid (own_.own_below OK.out TB.out.1)
      have t0 : V0.cell? ⟨wr.heap.size, 0, none⟩ = some (.int .i64 u0) := TB.out.cell 0
      have t1 : V0.cell? ⟨wr.heap.size, 1, none⟩ = some (.int .i64 u1) := TB.out.cell 1
      have t2 : V0.cell? ⟨wr.heap.size, 2, none⟩ = some (.int .i64 u2) := TB.out.cell 2
      have t3 : V0.cell? ⟨wr.heap.size, 3, none⟩ = some (.int .i64 u3) := TB.out.cell 3
      have t4 : V0.cell? ⟨wr.heap.size, 4, none⟩ = some (.int .i64 u4) := TB.out.cell 4
      have t5 : V0.cell? ⟨wr.heap.size, 5, none⟩ = some (.int .i64 u5) := TB.out.cell 5
      go_wp2_with fail
      refine (HP.out V0 HB2.out (intc.rd_of_own O2.out rfl)).mono ?_
      rintro e V1 ⟨rfl, hb⟩
      have HB3 := Lib.hid (HB2.out.trans (hb.mono HB2.out.size))
      have O3 := Lib.hid (own_.own_below O2.out hb)
      have hVz := HB3.out.size
      have hlen : L.length ≤ 6 := by have := HLEN.out; omega
      have O5 := Lib.hid (O3.out.alloc (.cells #[.int .i64 r] 3))
      have B5 := Lib.hid (HB3.out.alloc hVz (.cells #[.int .i64 r] 3))
      clear hb t0 t1 t2 t3 t4 t5 TB HB2 O2 HB HP
      go_wp2_with (at_builtin; refine wpList_append_any rfl (.tmp 22) (.tmp 28) 35 rfl w.heap.size 3 iI (.int .i64 0) 1 8 Try.underlying35 hiI hzI0 hzI1 hzI2 rfl (by decide) _ L.length (cellsI L) rfl O5.out ⟨V1.heap.size, 0, none⟩ 1 1 [.int .i64 r] rfl rfl (cell_one_new _ _ _) (own_.one_cell _ rfl) (by unfold maxLen; omega) (by omega) (by rw [World.size_alloc]; omega) ?_; intro v6 w6 o6 g6 n6; obtain ⟨A6, c6, rfl⟩ := own_sliceZ o6)
      have O6 := Lib.hid (show w6.ownsRow w.heap.size 3 1 (.slice A6 (L.length + 1) c6) (neT (pst zs ps) g m (k + 1)).length (cellsI (neT (pst zs ps) g m (k + 1))) by rw [HT.out]; exact own_growI o6)
      have B6 := Lib.hid (B5.out.grown g6 B5.out.size (own_.row_ge O5.out))
      clear o6 g6 n6 O5 B5
      go_wp2_with fail
      go_roundw
      case rel => exact ⟨k + 1, by omega, by go_num, O6.out, B6.out⟩
      case measure => simp [intOf]; omega
    · obtain rfl : k = n := by omega
      go_wp2_with fail
      go_ret2
      exact ⟨_, rfl, by rw [HE.out]; exact OK.out, HB.out⟩

end Go.Proofs.Ytedocpocfpopgaa.asgg
