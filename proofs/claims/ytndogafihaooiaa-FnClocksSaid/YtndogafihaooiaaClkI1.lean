/- impl's median of the differences: differencesOf, inOrder, medianOf; OffsetOf, WorstPair, IsSteadyClock. -/
import Derived.Test.YtndogafihaooiaaClkI0
import Derived.Test.YtndogafihaooiaaInsr
import Derived.Test.YtndogafihaooiaaSitI
import Derived.Laws.MakeOwn
namespace Go.Proofs.Ytndogafihaooiaa.clki
open Go.RowKit Go.Proofs.Ytndogafihaooiaa.ints Go.Proofs.Ytndogafihaooiaa.lst Go.Proofs.Ytndogafihaooiaa.in_ Go.Proofs.Ytndogafihaooiaa.ats Go.Proofs.Ytndogafihaooiaa.clk Go.Proofs.Ytndogafihaooiaa.clks Go.Proofs.Ytndogafihaooiaa.intc Go.Proofs.Ytndogafihaooiaa.ins Go.Proofs.Ytndogafihaooiaa.insr

theorem own_zero (w : World) (cur : Array Value) (n : Nat) (hc : cur.size = n) (hn : n ≤ maxLen) : (w.alloc (.cells cur 3)).ownsRow w.heap.size 3 1 (.slice (some ⟨w.heap.size, 0, none⟩) n n) n cur.toList :=
  ⟨by rw [Array.length_toList]; omega, .inr ⟨w.heap.size, n, cur, rfl, Nat.le_refl _, heap_alloc_new w _, Nat.le_refl _, hn, by omega, by rw [List.take_of_length_le (by rw [Array.length_toList]; omega)]⟩⟩
set_option maxRecDepth 100000 in
set_option maxHeartbeats 4000000 in
theorem differencesOf (zs : List Int) (A : Option Addr) (n c : Nat) (w : World) (hn : n ≤ 12) (hck : ckT zs n = true) (h1 : RdZ 2 w w.heap.size A n zs) :
    Calls Try.prog 61 #[.slice A n c] w fun e w' => ∃ g, e = .returned (.slice (some ⟨g, 0, none⟩) n n) ∧ w'.ownsRow w.heap.size 3 1 (.slice (some ⟨g, 0, none⟩) n n) n (cellsI (dfL zs n)) ∧ Below w.heap.size w w' := by
  have HDF := Lib.hid (fun k (hk : k < n) => df_in hck hk)
  have HL := Lib.hid (dfL_length zs n)
  have HAT := Lib.hid (fun k (hk : k < n) => dfL_at (zs := zs) hk)
  have HR := Lib.hid h1
  obtain ⟨ii, hii, hi0, hi1, hi2⟩ := info_parts infoI
  obtain ⟨ZI, hZI⟩ : ∃ Z, Z = madeCells (Value.cells (.int .i64 0)) (n * 1) := ⟨_, rfl⟩
  have MI : ∀ W : World, (Instr.makeSlice 38 (.int .i64 (n : Int)) (.int .i64 (n : Int))).run Try.prog W = .ok (.slice (some ⟨W.heap.size, 0, none⟩) n n) (W.alloc (.cells ZI 3)) := fun W => by
    have := run_makeSlice (P := Try.prog) W 38 3 ii (.int .i64 0) Try.underlying38 hii hi0 .i64 .i64 (n : Int) (n : Int) (by omega) (Int.le_refl _) (by rw [hi1]; omega) (by rw [hi2]; omega) (by omega)
    rw [Int.toNat_natCast, hi1] at this
    rw [hZI]; exact this
  have LI1 := Lib.hid (show ZI.toList = fillI (dfL zs n) 0 n by rw [hZI, made1, fillI_zero])
  have SI := Lib.hid (show ZI.size = n by rw [hZI, size_madeCells]; omega)
  have OI1 := Lib.hid (show (w.alloc (.cells ZI 3)).ownsRow w.heap.size 3 1 (.slice (some ⟨w.heap.size, 0, none⟩) n n) n (fillI (dfL zs n) 0 n) from by rw [← LI1.out]; exact own_zero w ZI n SI.out (by unfold maxLen; omega))
  have BA := Lib.hid ((Below.refl w.heap.size w).alloc (Nat.le_refl _) (.cells ZI 3))
  clear hck h1 hZI hii hi0 hi1 hi2 LI1 SI
  go_enter Try.func61, Try.ntmps61
  go_wp2_with fail
  clear MI
  generalize hwb : w.heap.size = base at *
  generalize w.alloc (.cells ZI 3) = W1 at *
  go_loopw [11] (fun i wr => ∃ k : Nat, k ≤ n ∧ i = .int .i64 k ∧ wr.ownsRow base 3 1 (.slice (some ⟨base, 0, none⟩) n n) n (fillI (dfL zs n) k n) ∧ Below base w wr) (fun i _ => n - (intOf i).toNat)
  case atStart => exact ⟨0, Nat.zero_le _, rfl, OI1.out, BA.out⟩
  case round =>
    obtain ⟨k, hk, rfl, ho, hb⟩ := hrel
    clear OI1 BA
    by_cases hlt : k < n
    · have hlt2 : (k : Int) < (n : Int) := by omega
      obtain ⟨b1, o1, rfl, l1, p0, p1⟩ := cellsP (HR.out.below hb (by omega)) hlt
      have e1 : IntKind.i64.wrap (fld 2 zs k 1 - fld 2 zs k 0) = df zs k := by
        have := HDF.out k hlt
        unfold df at this
        rw [IntWalk.i64_in _ (by omega)]; rfl
      have HA := Lib.hid (HAT.out k hlt)
      have hs := hb.size
      have hg1 := own_lt ho
      have O1 := Lib.hid (ho.alloc (.cells #[.int .i64 (fld 2 zs k 0), .int .i64 (fld 2 zs k 1)] 36))
      have HB := Lib.hid (hb.alloc (by omega) (.cells #[.int .i64 (fld 2 zs k 0), .int .i64 (fld 2 zs k 1)] 36))
      have BX := Lib.hid (newS 36 #[.int .i64 (fld 2 zs k 0), .int .i64 (fld 2 zs k 1)] wr)
      clear ho hb HDF HAT
      generalize df zs k = y at *
      generalize fld 2 zs k 0 = u at *
      generalize fld 2 zs k 1 = v at *
      go_upto_region 5 with fail
      clear p0 p1
      generalize hwr : wr.heap.size = bx at *
      generalize wr.alloc (.cells #[.int .i64 u, .int .i64 v] 36) = W2 at *
      have x0 : W2.cell? ⟨bx, 0, none⟩ = some (.int .i64 u) := BX.out.cell 0
      have x1 : W2.cell? ⟨bx, 1, none⟩ = some (.int .i64 v) := BX.out.cell 1
      obtain ⟨oldv, hold⟩ := fillI_at HL.out hlt hk
      have q0 := (O1.out.cellAt k (by omega)).trans hold
      have r1 := O1.out.frozenAt k
      have T1 := Lib.hid (show (W2.setCell ⟨base, k, none⟩ (.int .i64 y)).ownsRow base 3 1 (.slice (some ⟨base, 0, none⟩) n n) n (fillI (dfL zs n) (k + 1) n) from by
        have := (O1.out.stored k (.int .i64 y)).1
        rw [fillI_set HA.out hlt] at this
        exact this)
      have T3 := Lib.hid (HB.out.setCell (p := ⟨base, k, none⟩) (Nat.le_refl _) (.int .i64 y))
      clear O1 HB HA hold
      go_wp2_with fail
      go_roundw
      case rel => exact ⟨k + 1, by omega, by go_num, T1.out, T3.out⟩
      case measure => simp [intOf]; omega
    · obtain rfl : k = n := by omega
      rw [fillI_all HL.out] at ho
      have HO := Lib.hid ho
      have HB := Lib.hid hb
      clear ho hb
      go_wp2_with fail
      go_ret
      exact ⟨base, rfl, by rw [hwb]; exact HO.out, by rw [hwb]; exact HB.out⟩

theorem rising_zero (xs : List Int) : rising (xs.take 0) = [] := by simp [rising]
theorem rising_take {xs : List Int} {k : Nat} {x : Int} (hx : xs[k]? = some x) : putL (rising (xs.take k)) ((rising (xs.take k)).countP (· < x)) x = rising (xs.take (k + 1)) := by
  rw [put_rising, List.take_add_one, hx]; rfl
set_option maxRecDepth 100000 in
set_option maxHeartbeats 4000000 in
theorem inOrder (xs : List Int) (A : Option Addr) (n c : Nat) (w : World) (hn : n ≤ 1048575) (h1 : RdI w w.heap.size A n xs) :
    Calls Try.prog 91 #[.slice A n c] w fun e w' => ∃ v, e = .returned v ∧ w'.ownsRow w.heap.size 3 1 v n (cellsI (rising xs)) ∧ Below w.heap.size w w' := by
  have HR := Lib.hid h1
  have hl := h1.1
  have HT := Lib.hid (fun k (hk : k ≤ n) => show (xs.take k).length = k by rw [List.length_take]; omega)
  have HALL := Lib.hid (show xs.take n = xs from List.take_of_length_le (by omega))
  have HST := Lib.hid (fun k x (hx : xs[k]? = some x) => rising_take hx)
  clear h1
  go_enter Try.func91, Try.ntmps91
  go_wp2_with fail
  go_loopw [3, 10] (fun v i wr => ∃ (k : Nat) (D : Option Addr) (cc : Nat), k ≤ n ∧ i = .int .i64 k ∧ v = .slice D k cc ∧ wr.ownsRow w.heap.size 3 1 (.slice D k cc) k (cellsI (rising (xs.take k))) ∧ Below w.heap.size w wr) (fun _ i _ => n - (intOf i).toNat)
  case atStart => exact ⟨0, none, 0, Nat.zero_le _, rfl, rfl, by rw [rising_zero]; exact World.ownsRow_nil w _ _ _, Below.refl _ _⟩
  case round =>
    obtain ⟨k, D, cc, hk, rfl, rfl, ho, hb⟩ := hrel
    by_cases hlt : k < n
    · have hlt2 : (k : Int) < (n : Int) := by omega
      obtain ⟨b, ob, x, rfl, hbl, hx, hc⟩ := (HR.out.next hb).at_ hlt
      have HS := Lib.hid (HST.out k x hx)
      have SE := Lib.hid (fun W (h : W.ownsRow w.heap.size 3 1 (.slice D k cc) k (cellsI (rising (xs.take k)))) => searchI (xs.take k) x D w.heap.size k cc W h (HT.out k hk) (by omega))
      have hRl : (rising (xs.take k)).length = k := by rw [rising_length]; exact HT.out k hk
      have hcp : (rising (xs.take k)).countP (· < x) ≤ k := by have := List.countP_le_length (p := (· < x)) (l := rising (xs.take k)); omega
      have IN := Lib.hid (fun W g (h : W.ownsRow w.heap.size 3 1 (.slice D k cc) k (cellsI (rising (xs.take k)))) (hB : w.heap.size ≤ W.heap.size) (hg : W.heap.size = g) => insertI (rising (xs.take k)) x D w.heap.size k cc ((rising (xs.take k)).countP (· < x)) g W h hRl hcp (by omega) hB hg)
      rw [HS.out] at IN
      have HO := Lib.hid ho
      have HB := Lib.hid hb
      clear ho hb hx HST HT hcp
      generalize (rising (xs.take k)).countP (· < x) = j at *
      generalize (rising (xs.take k)).contains x = cb at *
      go_wp2_with fail
      refine (SE.out wr HO.out).mono ?_
      rintro e w' ⟨q, rfl, rfl⟩
      have HO2 := Lib.hid (own_.own_drewN HO.out q)
      have HB2 := Lib.hid (aid.below_drewN HB.out q)
      clear SE HO HB hc
      generalize wr.drewN q = W1 at *
      go_wp2_with fail
      refine (IN.out W1 _ HO2.out HB2.out.size rfl).mono ?_
      rintro e w3 ⟨v3, rfl, ho3, hb3⟩
      have HB3 := Lib.hid (HB2.out.trans hb3)
      obtain ⟨D3, c3, rfl⟩ := own_sliceZ ho3
      have HO3 := Lib.hid ho3
      clear ho3 hb3 HO2 HB2 IN
      go_wp2_with fail
      go_roundw
      case rel => exact ⟨k + 1, D3, c3, by omega, by go_num, rfl, HO3.out, HB3.out⟩
      case measure => simp [intOf]; omega
    · obtain rfl : k = n := by omega
      rw [HALL.out] at ho
      have HO := Lib.hid ho
      have HB := Lib.hid hb
      clear ho hb
      go_wp2_with fail
      go_ret
      exact ⟨_, rfl, HO.out, HB.out⟩

set_option maxRecDepth 100000 in
theorem medianOf (zs : List Int) (A : Option Addr) (n c : Nat) (w : World) (h0 : 0 < n) (hn : n ≤ 12) (h1 : RdI w w.heap.size A n (dfL zs n)) :
    Calls Try.prog 65 #[.slice A n c] w fun e w' => e = .returned (.int .i64 (mdT zs n)) ∧ Below w.heap.size w w' := by
  have CI := Lib.hid (inOrder (dfL zs n) A n c w (by omega) h1)
  have HL := Lib.hid (show (rising (dfL zs n)).length = n by rw [rising_length, dfL_length])
  have HMD := Lib.hid (show mdT zs n = (rising (dfL zs n)).getD ((n - 1) / 2) 0 from rfl)
  clear h1
  obtain ⟨m, hm⟩ : ∃ m, m + 1 = n := ⟨n - 1, by omega⟩
  obtain ⟨q, hq⟩ : ∃ q, q = m / 2 := ⟨_, rfl⟩
  have e5 : IntKind.i64.wrap ((n : Int) - 1) = (m : Int) := by rw [IntWalk.i64_in _ (by omega)]; omega
  have e6 : (m : Int).tdiv 2 = (q : Int) := by rw [hq]; rfl
  have e7 : IntKind.i64.wrap ((m : Int).tdiv 2) = (q : Int) := by rw [e6, IntWalk.i64_in _ (by omega)]
  have hq0 : (0 : Int) ≤ (q : Int) := Int.natCast_nonneg _
  have hqk : (q : Int) < (n : Int) := by omega
  have HQ := Lib.hid (show q < n by omega)
  have HE := Lib.hid (show mdT zs n = (rising (dfL zs n)).getD q 0 by rw [HMD.out, hq, show n - 1 = m by omega])
  clear hm hq HMD
  generalize rising (dfL zs n) = L at *
  go_enter Try.func65, Try.ntmps65
  go_wp2_with fail
  refine CI.out.mono ?_
  rintro e w2 ⟨v, rfl, ho, hb⟩
  obtain ⟨g, cc, rfl, hcc, hbg⟩ := own_posC ho h0
  have s0 := own_at ho HL.out HQ.out
  have BX := Lib.hid hb
  clear ho hb CI
  generalize L.getD q 0 = x at *
  go_wp2_with fail
  go_ret
  exact ⟨by rw [HE.out]; rfl, BX.out⟩

set_option maxRecDepth 100000 in
set_option maxHeartbeats 4000000 in
theorem offsetOf (zs : List Int) (A : Option Addr) (n c : Nat) (w : World) (hc : n ≤ c) (hn : n ≤ 1048577) (h1 : RdZ 2 w w.heap.size A n zs) :
    Calls Try.prog 21 #[.slice A n c] w fun e w' => e = .returned (.tuple #[.int .i64 (ofV zs n), .bool (ckB zs n)]) ∧ Below w.heap.size w w' := by
  have T := isValidPairs zs A n c w hc hn h1
  cases hq : ckB zs n
  · rw [hq] at T
    have HV := Lib.hid (of_no hq)
    have T := Lib.hid T
    clear h1 hq
    go_enter Try.func21, Try.ntmps21
    go_wp2_with fail
    refine T.out.mono ?_
    rintro e w2 ⟨rfl, hb⟩
    have BX := Lib.hid hb
    clear hb
    go_wp2_with fail
    go_ret2
    exact ⟨by rw [HV.out]; rfl, BX.out⟩
  rw [hq] at T
  have T := Lib.hid T
  have HV := Lib.hid (of_yes hq)
  have CD := Lib.hid (fun W (hb : Below w.heap.size w W) => differencesOf zs A n c W (ckB_yes hq).2.2 (ckB_yes hq).1 (h1.next hb))
  have CM := Lib.hid (fun A' c' W h => medianOf zs A' n c' W (ckB_yes hq).2.1 (ckB_yes hq).2.2 h)
  clear h1 hq
  go_enter Try.func21, Try.ntmps21
  go_wp2_with fail
  refine T.out.mono ?_
  rintro e w2 ⟨rfl, hb⟩
  have BX := Lib.hid hb
  clear hb
  go_wp2_with fail
  refine (CD.out w2 BX.out).mono ?_
  rintro e w3 ⟨g, rfl, ho, hb⟩
  have RD := Lib.hid (rd_of_own ho (dfL_length zs n))
  have BY := Lib.hid (BX.out.trans (hb.mono BX.out.size))
  clear ho hb CD
  go_wp2_with fail
  refine (CM.out _ _ w3 RD.out).mono ?_
  rintro e w4 ⟨rfl, hb⟩
  have BZ := Lib.hid (BY.out.trans (hb.mono BY.out.size))
  clear hb
  go_wp2_with fail
  go_ret2
  exact ⟨by rw [HV.out]; rfl, BZ.out⟩

set_option maxRecDepth 100000 in
set_option maxHeartbeats 4000000 in
theorem worstPair (zs : List Int) (A : Option Addr) (n c : Nat) (w : World) (hc : n ≤ c) (hn : n ≤ 1048577) (h1 : RdZ 2 w w.heap.size A n zs) :
    Calls Try.prog 18 #[.slice A n c] w fun e w' => e = .returned (.tuple #[.int .i64 (wpI zs n), .int .i64 (wpD zs n), .bool (ckB zs n)]) ∧ Below w.heap.size w w' := by
  have T := offsetOf zs A n c w hc hn h1
  cases hq : ckB zs n
  · rw [hq, of_no hq] at T
    have HV := Lib.hid (wp_no hq)
    have T := Lib.hid T
    clear h1 hq
    go_enter Try.func18, Try.ntmps18
    go_wp2_with fail
    refine T.out.mono ?_
    rintro e w2 ⟨rfl, hb⟩
    have BX := Lib.hid hb
    clear hb
    go_wp2_with fail
    go_ret3
    exact ⟨by rw [HV.out.1, HV.out.2]; rfl, BX.out⟩
  rw [hq, of_yes hq] at T
  have T := Lib.hid T
  have HV := Lib.hid (wp_yes hq)
  have CD := Lib.hid (fun W (hb : Below w.heap.size w W) => differencesOf zs A n c W (ckB_yes hq).2.2 (ckB_yes hq).1 (h1.next hb))
  have HDF := Lib.hid (fun k (hk : k < n) => df_in (ckB_yes hq).1 hk)
  have HMI := Lib.hid (mdT_in (ckB_yes hq).1 (ckB_yes hq).2.1)
  obtain ⟨hn0, hn12⟩ := (ckB_yes hq).2
  have HY := Lib.hid (fun k (h : wsM zs (mdT zs n) 0 k < (dv zs (mdT zs n) k : Int)) => wsM_yes h)
  have HN := Lib.hid (fun k (h : ¬ wsM zs (mdT zs n) 0 k < (dv zs (mdT zs n) k : Int)) => wsM_no (by omega) h)
  have HE := Lib.hid (wsM_pos (zs := zs) (o := mdT zs n) (z := 0) (show 0 < n by omega))
  have HDV := Lib.hid (fun k => show dv zs (mdT zs n) k = (df zs k - mdT zs n).natAbs from rfl)
  have HDL := Lib.hid (dfL_length zs n)
  have HDA := Lib.hid (fun k (hk : k < n) => dfL_at (zs := zs) hk)
  clear h1 hq
  generalize mdT zs n = o at *
  go_enter Try.func18, Try.ntmps18
  go_wp2_with fail
  refine T.out.mono ?_
  rintro e w2 ⟨rfl, hb⟩
  have BX := Lib.hid hb
  clear hb
  go_wp2_with fail
  refine (CD.out w2 BX.out).mono ?_
  rintro e w3 ⟨g, rfl, ho, hb⟩
  have RD := Lib.hid (rd_of_own ho HDL.out)
  have BY := Lib.hid (BX.out.trans (hb.mono BX.out.size))
  clear ho hb CD
  go_wp2_with fail
  go_loop [7, 8, 22] (fun u v i => ∃ k : Nat, k ≤ n ∧ i = .int .i64 k ∧ u = .int .i64 (wsT zs o k : Int) ∧ v = .int .i64 (wsM zs o 0 k)) (fun _ _ i => n - (intOf i).toNat)
  case atStart => exact ⟨0, Nat.zero_le _, rfl, rfl, rfl⟩
  case round =>
    obtain ⟨k, hk, rfl, rfl, rfl⟩ := hrel
    by_cases hlt : k < n
    · have hlt2 : (k : Int) < (n : Int) := by omega
      obtain ⟨b, ob, x, eg, hbl, hx, hc0⟩ := RD.out.at_ hlt
      obtain ⟨rfl, rfl⟩ : g = b ∧ 0 = ob := by injection eg with e; injection e with e1 e2; exact ⟨e1, e2⟩
      rw [Nat.zero_add] at hc0
      obtain rfl : x = df zs k := by rw [HDA.out k hlt] at hx; injection hx with hx; exact hx.symm
      obtain ⟨d0, d1⟩ := HDF.out k hlt
      obtain ⟨m0, m1⟩ := HMI.out
      have e2 : IntKind.i64.wrap (df zs k - o) = df zs k - o := IntWalk.i64_in _ (by omega)
      have Z := fun w => siti.absoluteOf (df zs k - o) w (by omega) (by omega)
      rw [← HDV.out k] at Z
      have Z := Lib.hid Z
      have HYk := Lib.hid (HY.out k)
      have HNk := Lib.hid (HN.out k)
      clear d0 d1 m0 m1 HDF HMI HY HN HE HDV hx HDA eg
      generalize dv zs o k = d at *
      generalize df zs k = y at *
      generalize hf1 : wsT zs o k = f1 at *
      generalize hg1 : wsM zs o 0 k = g1 at *
      have HF1 := Lib.hid hf1
      have HG1 := Lib.hid hg1
      clear hf1 hg1
      by_cases hs : g1 < (d : Int)
      · have HQ := Lib.hid (HYk.out hs)
        clear HYk HNk
        go_wp2_with fail
        refine (Z.out _).mono ?_
        rintro e w' ⟨rfl, rfl⟩
        go_wp2_with fail
        go_round
        case rel => exact ⟨k + 1, by omega, by go_num, by rw [HQ.out.1], by rw [HQ.out.2]⟩
        case measure => simp [intOf]; omega
      · have HQ := Lib.hid (HNk.out (by omega))
        clear HYk HNk
        go_wp2_with fail
        refine (Z.out _).mono ?_
        rintro e w' ⟨rfl, rfl⟩
        go_wp2_with fail
        go_round
        case rel => exact ⟨k + 1, by omega, by go_num, by rw [HQ.out.1], by rw [HQ.out.2]⟩
        case measure => simp [intOf]; omega
    · obtain rfl : k = n := by omega
      generalize hg1 : wsM zs o 0 k = g1 at *
      have HG1 := Lib.hid hg1
      clear hg1
      go_wp2_with fail
      go_ret3
      exact ⟨by rw [HV.out.1, HV.out.2, ← HE.out]; rfl, BY.out⟩

set_option maxRecDepth 100000 in
set_option maxHeartbeats 4000000 in
theorem isSteadyClock (zs : List Int) (m : Int) (A : Option Addr) (n c : Nat) (w : World) (hc : n ≤ c) (hn : n ≤ 1048577) (h1 : RdZ 2 w w.heap.size A n zs) :
    Calls Try.prog 16 #[.slice A n c, .int .i64 m] w fun e w' => e = .returned (.tuple #[.bool (scV zs n m), .bool (scB zs n m)]) ∧ Below w.heap.size w w' := by
  have T := worstPair zs A n c w hc hn h1
  cases hq : ckB zs n
  · rw [hq, (wp_no hq).1, (wp_no hq).2] at T
    have HV := Lib.hid (show scB zs n m = false ∧ scV zs n m = false by unfold scV scB; rw [hq]; exact ⟨rfl, rfl⟩)
    have T := Lib.hid T
    clear h1 hq
    go_enter Try.func16, Try.ntmps16
    go_wp2_with fail
    refine T.out.mono ?_
    rintro e w2 ⟨rfl, hb⟩
    have BX := Lib.hid hb
    clear hb
    go_wp2_with fail
    go_ret2
    exact ⟨by rw [HV.out.1, HV.out.2]; rfl, BX.out⟩
  rw [hq, (wp_yes hq).1, (wp_yes hq).2] at T
  have T := Lib.hid T
  have T1 := fun w => isTicks m w
  rw [show isIn m 0 1000000 = tkB m from rfl] at T1
  cases hm : tkB m
  · rw [hm] at T1
    have HV := Lib.hid (show scB zs n m = false ∧ scV zs n m = false by unfold scV scB; rw [hq, hm]; exact ⟨rfl, rfl⟩)
    have T1 := Lib.hid T1
    clear h1 hq hm
    go_enter Try.func16, Try.ntmps16
    go_wp2_with fail
    refine T.out.mono ?_
    rintro e w2 ⟨rfl, hb⟩
    have BX := Lib.hid hb
    clear hb
    go_wp2_with fail
    refine (T1.out _).mono ?_
    rintro e w3 ⟨rfl, rfl⟩
    go_wp2_with fail
    go_ret2
    exact ⟨by rw [HV.out.1, HV.out.2]; rfl, BX.out⟩
  rw [hm] at T1
  have T1 := Lib.hid T1
  have HV := Lib.hid (show scB zs n m = true ∧ scV zs n m = decide ((dv zs (mdT zs n) (wsT zs (mdT zs n) n) : Int) ≤ m) by unfold scV scB; rw [hq, hm]; exact ⟨rfl, rfl⟩)
  clear h1 hq hm
  generalize wsT zs (mdT zs n) n = f at *
  generalize dv zs (mdT zs n) f = d at *
  go_enter Try.func16, Try.ntmps16
  go_wp2_with fail
  refine T.out.mono ?_
  rintro e w2 ⟨rfl, hb⟩
  have BX := Lib.hid hb
  clear hb
  go_wp2_with fail
  refine (T1.out _).mono ?_
  rintro e w3 ⟨rfl, rfl⟩
  go_wp2_with fail
  go_ret2
  exact ⟨by rw [HV.out.1, HV.out.2]; rfl, BX.out⟩

end Go.Proofs.Ytndogafihaooiaa.clki
