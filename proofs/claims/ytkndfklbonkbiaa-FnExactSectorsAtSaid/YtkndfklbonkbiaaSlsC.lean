/- impl's lists of sectors: areAll at sectors, doAscend, areSectors, SectorsAt. -/
import Derived.Test.YtkndfklbonkbiaaSlsR
import Derived.Test.YtkndfklbonkbiaaSctC
import Derived.Test.YtkndfklbonkbiaaIntC
import Derived.Laws.Small
import Derived.Deep.QuietTactic
import Derived.BigQuiet
import Derived.Deep.RegionHeld3
import Derived.Deep.CutRange
import Derived.Deep.CutBlock
namespace Go.Proofs.Ytkndfklbonkbiaa.slsc
open Go.RowKit Go.Proofs.Ytkndfklbonkbiaa.ints Go.Proofs.Ytkndfklbonkbiaa.lst Go.Proofs.Ytkndfklbonkbiaa.in_ Go.Proofs.Ytkndfklbonkbiaa.ats Go.Proofs.Ytkndfklbonkbiaa.pos Go.Proofs.Ytkndfklbonkbiaa.sct Go.Proofs.Ytkndfklbonkbiaa.sctj Go.Proofs.Ytkndfklbonkbiaa.sctb Go.Proofs.Ytkndfklbonkbiaa.sctr Go.Proofs.Ytkndfklbonkbiaa.slsa Go.Proofs.Ytkndfklbonkbiaa.slsr

set_option maxRecDepth 100000 in
set_option maxHeartbeats 2000000 in
theorem areAllSector (ps : List Se) (A : Option Addr) (n c : Nat) (w : World) (hn : n ≤ 1048577) (hs : ∀ (k : Nat) (p : Se), ps[k]? = some p → nc p ≤ 1048576) (h1 : RdS true w w.heap.size A n ps) :
    Calls Try.prog 88 #[.func (.func 20) #[] #[], .slice A n c] w fun e w' => e = .returned (.bool (alS ps n)) ∧ Below w.heap.size w w' := by
  have HR := Lib.hid h1
  have HS0 := Lib.hid hs
  clear h1 hs
  go_enter Try.func88, Try.ntmps88
  go_wp2_with fail
  go_loopw [9] (fun i wr => ∃ k : Nat, k ≤ n ∧ i = .int .i64 k ∧ Below w.heap.size w wr ∧ alS ps k = true) (fun i _ => n - (intOf i).toNat)
  case atStart => exact ⟨0, Nat.zero_le _, rfl, Below.refl _ _, rfl⟩
  case round =>
    obtain ⟨k, hk, rfl, hb, hon⟩ := hrel
    by_cases hlt : k < n
    · have hlt2 : (k : Int) < (n : Int) := by omega
      obtain ⟨p, hp⟩ := HR.out.get hlt
      obtain ⟨b1, o1, A1, c1, rfl, hcap, hat⟩ := RdS.at_ HR.out hp
      obtain ⟨p0, p1, -⟩ := hat wr hb
      have hm := HS0.out k p hp
      have X1 := Lib.hid (fun (W : World) (hb : Below w.heap.size w W) => show Calls Try.prog 20 #[.agg #[.int .i64 p.1, .slice A1 (nc p) c1]] W (fun e w' => e = .returned (.bool (seP p)) ∧ Below W.heap.size W w') from sctc.isValidSector p.1 p.2 A1 (nc p) c1 W (hcap rfl) hm (hat W hb).2.2)
      have HS := Lib.hid (alS_step hp)
      have HX := Lib.hid (fun (h : alS ps (k + 1) = false) => alS_cut h (show k + 1 ≤ n by omega))
      rw [hon, Bool.true_and] at HS
      have HB := Lib.hid (hb.alloc hb.size (.cells #[.int .i64 p.1, .slice A1 (nc p) c1] 42))
      clear hb hon hp hcap hat
      generalize seP p = pb at *
      generalize p.1 = d at *
      generalize nc p = m at *
      cases pb
      · have HN := Lib.hid (HX.out HS.out)
        clear HX HS
        go_wp2_with fail
        refine (X1.out _ HB.out).mono ?_
        rintro e w2 ⟨rfl, hb2⟩
        have HBB := Lib.hid (HB.out.trans (hb2.mono HB.out.size))
        clear hb2
        go_wp2_with fail
        go_ret
        exact ⟨by rw [HN.out]; rfl, HBB.out⟩
      · have HT := Lib.hid HS.out
        clear HX HS
        go_wp2_with fail
        refine (X1.out _ HB.out).mono ?_
        rintro e w2 ⟨rfl, hb2⟩
        have HBB := Lib.hid (HB.out.trans (hb2.mono HB.out.size))
        clear hb2 p0 p1
        go_wp2_with fail
        go_roundw
        case rel => exact ⟨k + 1, by omega, by go_num, HBB.out, HT.out⟩
        case measure => simp [intOf]; omega
    · obtain rfl : k = n := by omega
      have HO := Lib.hid hon
      have HB := Lib.hid hb
      clear hb hon
      go_wp2_with fail
      go_ret
      exact ⟨by rw [HO.out]; rfl, HB.out⟩

set_option maxRecDepth 100000 in
set_option maxHeartbeats 1000000 in
theorem doAscend (xs : List Int) (A : Option Addr) (n c : Nat) (w : World) (hn : n ≤ 1048577) (h1 : RdI w w.heap.size A n xs) :
    Calls Try.prog 89 #[.slice A n c] w fun e w' => e = .returned (.bool (ascB xs n)) ∧ Below w.heap.size w w' := by
  have HR := Lib.hid h1
  have HNO := Lib.hid (fun k (hk : k < n) (h0 : 0 < k) h => asc_no (xs := xs) hk h0 h)
  have HYE := Lib.hid (fun (h : ∀ k, k < n → 0 < k → xs.getD (k - 1) 0 < xs.getD k 0) => show ascB xs n = true from decide_eq_true h)
  clear h1
  go_enter Try.func89, Try.ntmps89
  go_wp2_with fail
  go_loopw [3] (fun i wr => ∃ k : Nat, 1 ≤ k ∧ (k ≤ n ∨ k = 1) ∧ i = .int .i64 k ∧ Below w.heap.size w wr ∧ ∀ j, j < k → j < n → 0 < j → xs.getD (j - 1) 0 < xs.getD j 0) (fun i _ => n - (intOf i).toNat)
  case atStart => exact ⟨1, Nat.le_refl _, Or.inr rfl, rfl, Below.refl _ _, fun j h1 h2 h3 => by omega⟩
  case round =>
    obtain ⟨k, hk1, hk, rfl, hb, hok⟩ := hrel
    by_cases hlt : k < n
    · have hlt2 : (k : Int) < (n : Int) := by omega
      obtain ⟨p, hp⟩ : ∃ p, p + 1 = k := ⟨k - 1, by omega⟩
      obtain ⟨b1, o1, u, rfl, l1, hx, p0⟩ := (HR.out.below hb (Nat.le_refl _)).at_ hlt
      obtain ⟨b2, o2, v, eA, l2, hy, q0⟩ := (HR.out.below hb (Nat.le_refl _)).at_ (show p < n by omega)
      obtain ⟨rfl, rfl⟩ : b1 = b2 ∧ o1 = o2 := by injection eA with e; injection e with e1 e2; exact ⟨e1, e2⟩
      have hxd : xs.getD k 0 = u := by rw [List.getD_eq_getElem?_getD, hx]; rfl
      have hyd : xs.getD (k - 1) 0 = v := by rw [show k - 1 = p by omega, List.getD_eq_getElem?_getD, hy]; rfl
      have hp0 : (0 : Int) ≤ (p : Int) := Int.natCast_nonneg _
      have hpN : (p : Int) < (n : Int) := by omega
      have e1 : IntKind.i64.wrap ((k : Int) - 1) = (p : Int) := by rw [IntWalk.i64_in _ (by omega)]; omega
      have HB := Lib.hid hb
      have HNk := Lib.hid (HNO.out k hlt hk1)
      have HOK := Lib.hid hok
      rw [hxd, hyd] at HNk
      have HXY := Lib.hid (And.intro hxd hyd)
      clear hb hok hx hy hxd hyd hp eA
      by_cases hlt3 : v < u
      · have hge : ¬ u ≤ v := by omega
        have HT := Lib.hid (show ∀ j, j < k + 1 → j < n → 0 < j → xs.getD (j - 1) 0 < xs.getD j 0 from fun j h1 h2 h3 => by
          rcases Nat.lt_or_ge j k with h | h
          · exact HOK.out j h h2 h3
          · obtain rfl : j = k := by omega
            rw [HXY.out.1, HXY.out.2]; exact hlt3)
        clear HOK HXY HNk
        go_wp2_with fail
        go_quiet (fail)
        go_wp2_with fail
        go_roundw
        case rel => exact ⟨k + 1, by omega, Or.inl (by omega), by go_num, aid.below_drewN HB.out _, HT.out⟩
        case measure => simp [intOf]; omega
      · have hge : u ≤ v := by omega
        have HN := Lib.hid (HNk.out (by omega))
        clear HOK HXY HNk
        go_wp2_with fail
        go_quiet (fail)
        go_wp2_with fail
        go_ret
        exact ⟨by rw [HN.out]; rfl, aid.below_drewN HB.out _⟩
    · have HE := Lib.hid (HYE.out (fun j h1 h2 => hok j (by omega) h1 h2))
      have hge : (n : Int) ≤ (k : Int) := by omega
      clear hok
      go_wp2_with fail
      go_ret
      exact ⟨by rw [HE.out]; rfl, hb⟩

theorem own_app {w : World} {B e : Nat} {v : Value} {L : List Int} {x : Int} (h : w.ownsRow B e 1 v (L.length + 1) (cellsI L ++ [.int .i64 x])) : w.ownsRow B e 1 v (L ++ [x]).length (cellsI (L ++ [x])) := own_growI h
set_option maxRecDepth 100000 in
set_option maxHeartbeats 4000000 in
theorem areSectors (ps : List Se) (A : Option Addr) (n c : Nat) (w : World) (hn : n ≤ 1048576) (hs : ∀ (k : Nat) (p : Se), ps[k]? = some p → nc p ≤ 1048576) (h1 : RdS true w w.heap.size A n ps) :
    Calls Try.prog 48 #[.slice A n c] w fun e w' => e = .returned (.bool (lsB ps n)) ∧ Below w.heap.size w w' := by
  have HA := Lib.hid (areAllSector ps A n c w (by omega) hs h1)
  have HR := Lib.hid h1
  have HE := Lib.hid (show lsB ps n = (decide (n ≤ 6) && (alS ps n && ascB (idL ps n) n)) from rfl)
  obtain ⟨i0, hi, hz0, hz1, hz2⟩ := info_parts infoI
  clear h1 hs
  by_cases h6 : n ≤ 6
  case neg =>
    have g6 : ¬ (n : Int) ≤ 6 := by omega
    rw [decide_eq_false h6] at HE
    clear HA HR
    go_enter Try.func48, Try.ntmps48
    go_wp2_with fail
    go_ret
    exact ⟨by rw [HE.out]; rfl, Below.refl _ _⟩
  have g6 : (n : Int) ≤ 6 := by omega
  rw [decide_eq_true h6, Bool.true_and] at HE
  cases hal : alS ps n
  · rw [hal] at HA HE
    clear hal HR
    go_enter Try.func48, Try.ntmps48
    go_wp2_with fail
    refine HA.out.mono ?_
    rintro e w1 ⟨rfl, hb⟩
    go_wp2_with fail
    go_ret
    exact ⟨by rw [HE.out]; rfl, hb⟩
  rw [hal] at HA
  rw [hal, Bool.true_and] at HE
  clear hal
  go_enter Try.func48, Try.ntmps48
  go_wp2_with fail
  refine HA.out.mono ?_
  rintro e w1 ⟨rfl, hb1⟩
  have HB1 := Lib.hid hb1
  clear hb1 HA
  go_wp2_with fail
  go_loopw [3, 16] (fun q i wr => ∃ k : Nat, k ≤ n ∧ i = .int .i64 k ∧ wr.ownsRow w1.heap.size 3 1 q (idL ps k).length (cellsI (idL ps k)) ∧ Below w1.heap.size w1 wr) (fun _ i _ => n - (intOf i).toNat)
  case atStart => exact ⟨0, Nat.zero_le _, rfl, World.ownsRow_nil .., Below.refl _ _⟩
  case round =>
    obtain ⟨k, hk, rfl, hO, hb⟩ := hrel
    by_cases hlt : k < n
    · have hlt2 : (k : Int) < (n : Int) := by omega
      obtain ⟨p, hp⟩ := HR.out.get hlt
      obtain ⟨b1, o1, A1, c1, rfl, -, hat⟩ := RdS.at_ HR.out hp
      obtain ⟨p0, p1, -⟩ := hat wr (HB1.out.trans (hb.mono HB1.out.size))
      have hlen := idL_length ps k
      have HST := Lib.hid (show idL ps (k + 1) = idL ps k ++ [p.1] by rw [idL, gt_of hp])
      have SA := Lib.hid (newS 42 #[.int .i64 p.1, .slice A1 (nc p) c1] wr)
      have HO := Lib.hid (hO.alloc (.cells #[.int .i64 p.1, .slice A1 (nc p) c1] 42))
      have HB := Lib.hid (hb.alloc hb.size (.cells #[.int .i64 p.1, .slice A1 (nc p) c1] 42))
      clear hO hb hat hp
      generalize idL ps k = L at *
      generalize p.1 = d at *
      generalize nc p = m at *
      go_upto_region 7 with fail
      clear p0 p1
      generalize wr.alloc (.cells #[.int .i64 d, .slice A1 m c1] 42) = WA at *
      have d0 : WA.cell? ⟨wr.heap.size, 0, none⟩ = some (.int .i64 d) := SA.out.cell 0
      have hsz := HB.out.size
      clear SA
      go_wp2_with (at_builtin; (refine wpList_append_own _ rfl (.tmp 20) (.tmp 23) 26 rfl w1.heap.size 3 i0 (.int .i64 0) 1 8 Try.underlying26 hi hz0 hz1 hz2 rfl (by decide) _ L.length (cellsI L) rfl (HO.out.alloc _) ⟨WA.heap.size, 0, none⟩ 1 1 [.int .i64 d] rfl rfl (cell_one_new _ _ _) (own_.one_cell _ rfl) (by unfold maxLen; omega) (by omega) (by simp; omega) ?_; intro v' w3 hown' hgrow hnil))
      have HB' := Lib.hid (own_.below_append HB.out HO.out hsz hgrow)
      have HO' := Lib.hid (own_app hown')
      clear hown' hgrow hnil d0
      go_roundw
      case rel => exact ⟨k + 1, by omega, by go_num, by rw [HST.out]; exact HO'.out, HB'.out⟩
      case measure => simp [intOf]; omega
    · obtain rfl : k = n := by omega
      have HL := Lib.hid (idL_length ps k)
      rw [HL.out] at hO
      obtain ⟨A5, c5, rfl⟩ := own_sliceZ hO
      have HD := Lib.hid (doAscend (idL ps k) A5 k c5 wr (by omega) (intc.rd_of_own hO HL.out))
      have HB := Lib.hid (HB1.out.trans (hb.mono HB1.out.size))
      clear hO hb HR
      go_wp2_with fail
      refine HD.out.mono ?_
      rintro e w2 ⟨rfl, hb2⟩
      have HBB := Lib.hid (HB.out.trans (hb2.mono HB.out.size))
      clear hb2
      go_wp2_with fail
      go_ret
      exact ⟨by rw [HE.out]; rfl, HBB.out⟩

set_option maxRecDepth 100000 in
set_option maxHeartbeats 4000000 in
theorem sectorsAt (ps : List Se) (px py : Int) (A : Option Addr) (n c : Nat) (w : World) (hn : n ≤ 1048576) (hs : ∀ (k : Nat) (p : Se), ps[k]? = some p → nc p ≤ 1048576) (h1 : RdS true w w.heap.size A n ps) :
    Calls Try.prog 10 #[.slice A n c, .agg #[.int .i64 px, .int .i64 py]] w fun e w' => ∃ v, e = .returned (.tuple #[v, .bool (satB ps n px py)]) ∧ w'.ownsRow w.heap.size 3 1 v (satV ps n px py).length (cellsI (satV ps n px py)) ∧ Below w.heap.size w w' := by
  have S0 := Lib.hid (newS 31 #[.int .i64 px, .int .i64 py] w)
  have T0 := Lib.hid (fun (W : World) (hb : Below w.heap.size w W) => areSectors ps A n c W hn hs (h1.next hb))
  have T1 := Lib.hid (fun W => posj.isValidPlace px py W)
  cases hq0 : lsB ps n
  · rw [hq0] at T0
    have HE := Lib.hid (sat_no1 (px := px) (py := py) hq0)
    clear h1 hs hq0
    go_enter Try.func10, Try.ntmps10
    go_wp2_with fail
    generalize w.alloc (.cells #[.int .i64 px, .int .i64 py] 31) = W0 at *
    refine (T0.out W0 S0.out.1).mono ?_
    rintro e V0 ⟨rfl, hb⟩
    have BX := Lib.hid (S0.out.1.trans (hb.mono S0.out.1.size))
    clear hb
    have HV := Lib.hid (satV_no HE.out)
    go_wp2_with fail
    go_ret2
    exact ⟨_, by rw [HE.out]; rfl, by rw [HV.out]; exact World.ownsRow_nil .., BX.out⟩
  rw [hq0] at T0
  cases hq1 : pB px py
  · rw [hq1] at T1
    have HE := Lib.hid (sat_no2 (ps := ps) (n := n) hq1)
    clear h1 hs hq0 hq1
    go_enter Try.func10, Try.ntmps10
    go_wp2_with fail
    generalize w.alloc (.cells #[.int .i64 px, .int .i64 py] 31) = W0 at *
    refine (T0.out W0 S0.out.1).mono ?_
    rintro e V0 ⟨rfl, hb⟩
    have S1 := Lib.hid (S0.out.old hb)
    clear hb
    have c0 : V0.cell? ⟨w.heap.size, 0, none⟩ = some (.int .i64 px) := S1.out.cell 0
    have c1 : V0.cell? ⟨w.heap.size, 1, none⟩ = some (.int .i64 py) := S1.out.cell 1
    go_wp2_with fail
    clear c0 c1
    refine (T1.out V0).mono ?_
    rintro e V1 ⟨rfl, hb⟩
    have BX := Lib.hid (S1.out.1.trans (hb.mono S1.out.1.size))
    clear hb
    have HV := Lib.hid (satV_no HE.out)
    go_wp2_with fail
    go_ret2
    exact ⟨_, by rw [HE.out]; rfl, by rw [HV.out]; exact World.ownsRow_nil .., BX.out⟩
  rw [hq1] at T1
  have HE := Lib.hid (sat_yes hq0 hq1)
  have HV := Lib.hid (satV_yes HE.out)
  have HP := Lib.hid hq1
  have HAL := Lib.hid (ls_parts hq0)
  have HR := Lib.hid h1
  have HS0 := Lib.hid hs
  obtain ⟨i0, hi, hz0, hz1, hz2⟩ := info_parts infoI
  clear h1 hs hq0 hq1
  go_enter Try.func10, Try.ntmps10
  go_wp2_with fail
  generalize w.alloc (.cells #[.int .i64 px, .int .i64 py] 31) = W0 at *
  refine (T0.out W0 S0.out.1).mono ?_
  rintro e V0 ⟨rfl, hb⟩
  have S1 := Lib.hid (S0.out.old hb)
  clear hb S0
  have c0 : V0.cell? ⟨w.heap.size, 0, none⟩ = some (.int .i64 px) := S1.out.cell 0
  have c1 : V0.cell? ⟨w.heap.size, 1, none⟩ = some (.int .i64 py) := S1.out.cell 1
  go_wp2_with fail
  clear c0 c1
  refine (T1.out V0).mono ?_
  rintro e V1 ⟨rfl, hb⟩
  have S2 := Lib.hid (S1.out.old hb)
  clear hb S1 T0 T1
  go_wp2_with fail
  go_loopw [6, 19] (fun q i wr => ∃ k : Nat, k ≤ n ∧ i = .int .i64 k ∧ wr.ownsRow V1.heap.size 3 1 q (inL ps px py k).length (cellsI (inL ps px py k)) ∧ Below V1.heap.size V1 wr) (fun _ i _ => n - (intOf i).toNat)
  case atStart => exact ⟨0, Nat.zero_le _, rfl, World.ownsRow_nil .., Below.refl _ _⟩
  case round =>
    obtain ⟨k, hk, rfl, hO, hb⟩ := hrel
    by_cases hlt : k < n
    · have hlt2 : (k : Int) < (n : Int) := by omega
      obtain ⟨p, hp⟩ := HR.out.get hlt
      obtain ⟨b1, o1, A1, c1, rfl, -, hat⟩ := RdS.at_ HR.out hp
      obtain ⟨p0, p1, -⟩ := hat wr (S2.out.1.trans (hb.mono S2.out.1.size))
      have hlen := inL_length ps px py k
      have hmm := HS0.out k p hp
      have hsv : seV p.1 p.2 (nc p) = true := by have := alS_all HAL.out.2 hlt; rw [gt_of hp] at this; exact this
      obtain ⟨-, gp⟩ := se_corner hsv
      have D := Lib.hid (fun (W : World) (hb : Below w.heap.size w W) => sctc.whereIs p.2 px py A1 (nc p) c1 W hmm gp HP.out (hat W hb).2.2)
      have HY := Lib.hid (fun h => inL_yes (px := px) (py := py) hp h)
      have HN := Lib.hid (fun h => inL_not (px := px) (py := py) hp h)
      have HW := Lib.hid (wh_in (cX p.2) (cY p.2) (nc p) px py)
      rw [show inB (cX p.2) (cY p.2) (nc p) px py = inS p px py from rfl] at HW
      have SA := Lib.hid (newS 42 #[.int .i64 p.1, .slice A1 (nc p) c1] wr)
      have SB := Lib.hid ((S2.out.old hb).alloc (.cells #[.int .i64 p.1, .slice A1 (nc p) c1] 42))
      have HO := Lib.hid (hO.alloc (.cells #[.int .i64 p.1, .slice A1 (nc p) c1] 42))
      have HB := Lib.hid (hb.alloc hb.size (.cells #[.int .i64 p.1, .slice A1 (nc p) c1] 42))
      clear hO hb hat hp hmm hsv gp
      generalize whV (cX p.2) (cY p.2) (nc p) px py = x at *
      generalize inS p px py = pb at *
      generalize hLk : inL ps px py k = L at *
      generalize p.1 = d at *
      generalize nc p = m at *
      clear hLk
      go_upto_region 7 with fail
      clear p0 p1
      generalize wr.alloc (.cells #[.int .i64 d, .slice A1 m c1] 42) = WA at *
      have c00 : WA.cell? ⟨w.heap.size, 0, none⟩ = some (.int .i64 px) := SB.out.cell 0
      have c01 : WA.cell? ⟨w.heap.size, 1, none⟩ = some (.int .i64 py) := SB.out.cell 1
      have d0 : WA.cell? ⟨wr.heap.size, 0, none⟩ = some (.int .i64 d) := SA.out.cell 0
      have d1 : WA.cell? ⟨wr.heap.size, 1, none⟩ = some (.slice A1 m c1) := SA.out.cell 1
      go_wp2_with fail
      refine (D.out WA SB.out.1).mono ?_
      rintro e w2 ⟨rfl, hb2⟩
      have O2 := Lib.hid (own_.own_below HO.out hb2)
      have B2 := Lib.hid (HB.out.trans (hb2.mono HB.out.size))
      have S4 := Lib.hid (SA.out.old hb2)
      have hsz := B2.out.size
      clear hb2 c00 c01 d0 d1 HO HB SB SA D
      by_cases h0 : x = 0
      · have g1 : (x != 0) = false := by simp [h0]
        have HX := Lib.hid (HN.out (HW.out.symm.trans (decide_eq_false (fun h => h h0))))
        clear HY HN HW
        go_wp2_with fail
        go_roundw
        case rel => exact ⟨k + 1, by omega, by go_num, by rw [HX.out]; exact O2.out, B2.out⟩
        case measure => simp [intOf]; omega
      · have g1 : (x != 0) = true := by simp [h0]
        have HX := Lib.hid (HY.out (HW.out.symm.trans (decide_eq_true h0)))
        clear HY HN HW
        have d0 : w2.cell? ⟨wr.heap.size, 0, none⟩ = some (.int .i64 d) := S4.out.cell 0
        go_wp2_with (at_builtin; (refine wpList_append_own _ rfl (.tmp 28) (.tmp 31) 26 rfl V1.heap.size 3 i0 (.int .i64 0) 1 8 Try.underlying26 hi hz0 hz1 hz2 rfl (by decide) _ L.length (cellsI L) rfl (O2.out.alloc _) ⟨w2.heap.size, 0, none⟩ 1 1 [.int .i64 d] rfl rfl (cell_one_new _ _ _) (own_.one_cell _ rfl) (by unfold maxLen; omega) (by omega) (by simp; omega) ?_; intro v' w3 hown' hgrow hnil))
        have HB' := Lib.hid (own_.below_append B2.out O2.out hsz hgrow)
        have HO' := Lib.hid (own_app hown')
        clear hown' hgrow hnil d0
        go_roundw
        case rel => exact ⟨k + 1, by omega, by go_num, by rw [HX.out]; exact HO'.out, HB'.out⟩
        case measure => simp [intOf]; omega
    · obtain rfl : k = n := by omega
      have HO := Lib.hid hO
      have HB := Lib.hid hb
      clear hO hb HR
      go_wp2_with fail
      go_ret2
      exact ⟨_, by rw [HE.out]; rfl, by rw [HV.out]; exact own_.own_base HO.out S2.out.1.size, S2.out.1.trans (HB.out.mono S2.out.1.size)⟩
end Go.Proofs.Ytkndfklbonkbiaa.slsc
