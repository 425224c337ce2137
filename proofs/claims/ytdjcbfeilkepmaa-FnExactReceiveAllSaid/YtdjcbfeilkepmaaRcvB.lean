/- impl's isMinute, isReportBy, isHeardBy, IsValidReceiver, canGoOn. -/
import Derived.Test.YtdjcbfeilkepmaaRcvM
import Derived.Test.YtdjcbfeilkepmaaFrmI
import Derived.Test.YtdjcbfeilkepmaaPosJ
import Derived.BigQuiet
import Derived.Deep.QuietTactic
import Derived.Deep.CutRange
namespace Go.Proofs.Ytdjcbfeilkepmaa.rcvb
open Go.RowKit Go.Proofs.Ytdjcbfeilkepmaa.in_ Go.Proofs.Ytdjcbfeilkepmaa.pos Go.Proofs.Ytdjcbfeilkepmaa.rcv Go.Proofs.Ytdjcbfeilkepmaa.rcvm Go.Proofs.Ytdjcbfeilkepmaa.ats

theorem isMinute (m : Int) (w : World) : Calls Try.prog 139 #[.int .i64 m] w fun e w' => e = .returned (.bool (isIn m 0 9999)) ∧ w = w' := by
  unfold isIn
  by_cases h1 : 0 ≤ m
  · have g1 : decide (0 ≤ m) = true := decide_eq_true h1
    by_cases h2 : m ≤ 9999
    · have g2 : decide (m ≤ 9999) = true := decide_eq_true h2
      rw [decide_eq_true ⟨h1, h2⟩]
      go_enter Try.func139, Try.ntmps139
      go_wp2_with fail
      go_ret
      exact ⟨rfl, rfl⟩
    · have g2 : decide (m ≤ 9999) = false := decide_eq_false h2
      rw [decide_eq_false (fun h => h2 h.2)]
      go_enter Try.func139, Try.ntmps139
      go_wp2_with fail
      go_ret
      exact ⟨rfl, rfl⟩
  · have g1 : decide (0 ≤ m) = false := decide_eq_false h1
    rw [decide_eq_false (fun h => h1 h.1)]
    go_enter Try.func139, Try.ntmps139
    go_wp2_with fail
    go_ret
    exact ⟨rfl, rfl⟩

theorem isReportBy (o : Bool) (a b : Int) (odd : Bool) (t m : Int) (w : World) :
    Calls Try.prog 195 #[.agg #[.bool o, .int .i64 a, .int .i64 b], .bool odd, .int .i64 t, .int .i64 m] w fun e w' => e = .returned (.bool (half o a b t odd m)) ∧ Below w.heap.size w w' := by
  have B0 := Lib.hid (newS 135 #[.bool o, .int .i64 a, .int .i64 b] w)
  by_cases ht : t = -1
  · have HE := Lib.hid (show half o a b t odd m = (!o && (decide (a = 0) && decide (b = 0))) by unfold half; rw [if_pos ht])
    subst ht
    rw [HE.out]
    clear HE
    cases o
    · by_cases ha : a = 0
      · subst ha
        by_cases hb : b = 0
        · subst hb
          go_enter Try.func195, Try.ntmps195
          go_wp2_with fail
          go_ret
          exact ⟨rfl, B0.out.1⟩
        · rw [decide_eq_false hb]
          go_enter Try.func195, Try.ntmps195
          go_wp2_with fail
          go_ret
          exact ⟨rfl, B0.out.1⟩
      · rw [decide_eq_false ha]
        go_enter Try.func195, Try.ntmps195
        go_wp2_with fail
        go_ret
        exact ⟨rfl, B0.out.1⟩
    · go_enter Try.func195, Try.ntmps195
      go_wp2_with fail
      go_ret
      exact ⟨rfl, B0.out.1⟩
  · have HE := Lib.hid (show half o a b t odd m = (isIn t 0 m && (rB o a b && (o == odd))) by unfold half; rw [if_neg ht])
    have g0 : (t == -1) = false := by simpa using ht
    rw [HE.out]
    clear HE ht
    have h2 := fun w => posj.isValidReport o a b w
    generalize rB o a b = r2 at *
    unfold isIn
    by_cases h1 : 0 ≤ t
    · have g1 : decide (0 ≤ t) = true := decide_eq_true h1
      by_cases h3 : t ≤ m
      · have g2 : decide (t ≤ m) = true := decide_eq_true h3
        rw [decide_eq_true ⟨h1, h3⟩]
        clear h1 h3
        cases o <;> cases odd
        · go_enter Try.func195, Try.ntmps195
          go_wp2_with fail
          refine (h2 _).mono ?_
          rintro e w2 ⟨rfl, hb2⟩
          cases r2
          · go_wp2_with fail
            go_ret
            exact ⟨rfl, (B0.out.old hb2).1⟩
          · go_wp2_with fail
            go_ret
            exact ⟨rfl, (B0.out.old hb2).1⟩
        · clear h2
          rw [show (true && (r2 && (false == true))) = false by simp]
          go_enter Try.func195, Try.ntmps195
          go_wp2_with fail
          go_ret
          exact ⟨rfl, B0.out.1⟩
        · clear h2
          rw [show (true && (r2 && (true == false))) = false by simp]
          go_enter Try.func195, Try.ntmps195
          go_wp2_with fail
          go_ret
          exact ⟨rfl, B0.out.1⟩
        · go_enter Try.func195, Try.ntmps195
          go_wp2_with fail
          refine (h2 _).mono ?_
          rintro e w2 ⟨rfl, hb2⟩
          cases r2
          · go_wp2_with fail
            go_ret
            exact ⟨rfl, (B0.out.old hb2).1⟩
          · go_wp2_with fail
            go_ret
            exact ⟨rfl, (B0.out.old hb2).1⟩
      · have g2 : decide (t ≤ m) = false := decide_eq_false h3
        rw [decide_eq_false (fun h => h3 h.2)]
        clear h2 h1 h3
        go_enter Try.func195, Try.ntmps195
        go_wp2_with fail
        go_ret
        exact ⟨rfl, B0.out.1⟩
    · have g1 : decide (0 ≤ t) = false := decide_eq_false h1
      rw [decide_eq_false (fun h => h1 h.1)]
      clear h2 h1
      go_enter Try.func195, Try.ntmps195
      go_wp2_with fail
      go_ret
      exact ⟨rfl, B0.out.1⟩

set_option maxRecDepth 100000 in
set_option maxHeartbeats 4000000 in
theorem isHeardBy (h : Hd) (m : Int) (w : World) :
    Calls Try.prog 169 #[.agg #[.int .i64 h.ad, .bool h.eo, .int .i64 h.ea, .int .i64 h.eb, .int .i64 h.et, .bool h.oo, .int .i64 h.oa, .int .i64 h.ob, .int .i64 h.ot, .int .i64 h.fr], .int .i64 m] w fun e w' => e = .returned (.bool (rcv.one m h)) ∧ Below w.heap.size w w' := by
  have B0 := Lib.hid (newS 137 #[.int .i64 h.ad, .bool h.eo, .int .i64 h.ea, .int .i64 h.eb, .int .i64 h.et, .bool h.oo, .int .i64 h.oa, .int .i64 h.ob, .int .i64 h.ot, .int .i64 h.fr] w)
  have h0 := fun w => frmi.isAddress h.ad w
  have X1 := Lib.hid (fun w => isReportBy h.eo h.ea h.eb false h.et m w)
  have X2 := Lib.hid (fun w => isReportBy h.oo h.oa h.ob true h.ot m w)
  have HE := Lib.hid (show rcv.one m h = (decide (1 ≤ h.ad ∧ h.ad ≤ 65535) && (decide (1 ≤ h.fr ∧ h.fr ≤ 9999) && (half h.eo h.ea h.eb h.et false m && half h.oo h.oa h.ob h.ot true m))) from rfl)
  rw [HE.out]
  clear HE
  generalize half h.eo h.ea h.eb h.et false m = q1 at *
  generalize half h.oo h.oa h.ob h.ot true m = q2 at *
  generalize decide (1 ≤ h.ad ∧ h.ad ≤ 65535) = r1 at *
  generalize hfr : h.fr = f at *
  cases r1
  · go_enter Try.func169, Try.ntmps169
    go_wp2_with fail
    refine (h0 _).mono ?_
    rintro e w' ⟨rfl, rfl⟩
    go_wp2_with fail
    go_ret
    exact ⟨rfl, B0.out.1⟩
  · by_cases f1 : 1 ≤ f
    · have g1 : decide (1 ≤ f) = true := decide_eq_true f1
      by_cases f2 : f ≤ 9999
      · have g2 : decide (f ≤ 9999) = true := decide_eq_true f2
        rw [decide_eq_true ⟨f1, f2⟩]
        clear f1 f2
        go_enter Try.func169, Try.ntmps169
        go_wp2_with fail
        refine (h0 _).mono ?_
        rintro e w' ⟨rfl, rfl⟩
        clear h0
        go_wp2_with fail
        refine (X1.out _).mono ?_
        rintro e w2 ⟨rfl, hb2⟩
        have B2 := Lib.hid (B0.out.old hb2)
        clear B0 hb2
        cases q1
        · go_wp2_with fail
          go_ret
          exact ⟨rfl, B2.out.1⟩
        · have d5 : w2.cell? ⟨w.heap.size, 5, none⟩ = some (.bool h.oo) := B2.out.cell 5
          have d6 : w2.cell? ⟨w.heap.size, 6, none⟩ = some (.int .i64 h.oa) := B2.out.cell 6
          have d7 : w2.cell? ⟨w.heap.size, 7, none⟩ = some (.int .i64 h.ob) := B2.out.cell 7
          have d8 : w2.cell? ⟨w.heap.size, 8, none⟩ = some (.int .i64 h.ot) := B2.out.cell 8
          go_wp2_with fail
          refine (X2.out _).mono ?_
          rintro e w3 ⟨rfl, hb3⟩
          have B3 := Lib.hid (B2.out.old hb3)
          clear B2 hb3
          cases q2
          · go_wp2_with fail
            go_ret
            exact ⟨rfl, B3.out.1⟩
          · go_wp2_with fail
            go_ret
            exact ⟨rfl, B3.out.1⟩
      · have g2 : decide (f ≤ 9999) = false := decide_eq_false f2
        rw [decide_eq_false (fun h => f2 h.2)]
        clear X1 X2 f1 f2
        go_enter Try.func169, Try.ntmps169
        go_wp2_with fail
        refine (h0 _).mono ?_
        rintro e w' ⟨rfl, rfl⟩
        go_wp2_with fail
        go_ret
        exact ⟨rfl, B0.out.1⟩
    · have g1 : decide (1 ≤ f) = false := decide_eq_false f1
      rw [decide_eq_false (fun h => f1 h.1)]
      clear X1 X2 f1
      go_enter Try.func169, Try.ntmps169
      go_wp2_with fail
      refine (h0 _).mono ?_
      rintro e w' ⟨rfl, rfl⟩
      go_wp2_with fail
      go_ret
      exact ⟨rfl, B0.out.1⟩

/-- The address before element k. -/
def lastA (hs : List Hd) : Nat → Int
  | 0 => 0
  | k + 1 => (hx hs k).ad
theorem ok_last {m : Int} {hs : List Hd} {k : Nat} (h : (hx hs k).ad ≤ lastA hs k) : okA m hs k = false := by
  unfold okA
  cases h1 : rcv.one m (hx hs k)
  · rfl
  · have h2 := (one_parts h1).1
    cases k with
    | zero => simp only [lastA] at h; omega
    | succ k =>
      simp only [lastA] at h
      unfold upB
      rw [decide_eq_false (by
        rintro (e | e)
        · omega
        · rw [Nat.add_sub_cancel] at e; omega)]
      rfl
theorem ok_one {m : Int} {hs : List Hd} {k : Nat} (h : ¬ (hx hs k).ad ≤ lastA hs k) : okA m hs k = rcv.one m (hx hs k) := by
  unfold okA
  have : upB hs k = true := by
    unfold upB
    cases k with
    | zero => exact decide_eq_true (.inl rfl)
    | succ k => exact decide_eq_true (.inr (by simp only [lastA] at h; simpa using h))
  rw [this, Bool.and_true]

set_option maxRecDepth 100000 in
set_option maxHeartbeats 4000000 in
theorem isValidReceiver (m : Int) (hs : List Hd) (A : Option Addr) (c : Nat) (w : World) (hn : hs.length ≤ 1048577) (h : RdH w w.heap.size A hs) :
    Calls Try.prog 138 #[.agg #[.int .i64 m, .slice A hs.length c]] w fun e w' => e = .returned (.bool (vB m hs)) ∧ Below w.heap.size w w' := by
  have B0 := Lib.hid (newS 71 #[.int .i64 m, .slice A hs.length c] w)
  have h1 := fun w => isMinute m w
  cases hm : isIn m 0 9999
  · rw [v_min hm]
    rw [hm] at h1
    clear hm h hn
    go_enter Try.func138, Try.ntmps138
    go_wp2_with fail
    refine (h1 _).mono ?_
    rintro e w' ⟨rfl, rfl⟩
    go_wp2_with fail
    go_ret
    exact ⟨rfl, B0.out.1⟩
  · by_cases h6 : hs.length ≤ 6
    · have HM := Lib.hid hm
      rw [hm] at h1
      have hd : decide ((6 : Int) < (hs.length : Int)) = false := decide_eq_false (by omega)
      have HR := Lib.hid (fun (wr : World) (hb : Below w.heap.size w wr) => h.below hb (Nat.le_refl _))
      have H6 := Lib.hid h6
      have hn6 : (hs.length : Int) ≤ 6 := by omega
      generalize hN : hs.length = n at *
      have HN := Lib.hid hN
      clear hm h hn h6 hN
      go_enter Try.func138, Try.ntmps138
      go_wp2_with fail
      refine (h1 _).mono ?_
      rintro e w' ⟨rfl, rfl⟩
      generalize w.alloc (.cells #[.int .i64 m, .slice A n c] 71) = W at *
      have a0 : W.cell? ⟨w.heap.size, 0, none⟩ = some (.int .i64 m) := B0.out.cell 0
      have a1 : W.cell? ⟨w.heap.size, 1, none⟩ = some (.slice A n c) := B0.out.cell 1
      go_wp2_with fail
      clear a0 a1 h1
      go_loopw [3, 19] (fun q i wr => ∃ k : Nat, k ≤ n ∧ i = .int .i64 k ∧ q = .int .i64 (lastA hs k) ∧ AtS 71 #[.int .i64 m, .slice A n c] w wr w.heap.size ∧ ∀ j, j < k → okA m hs j = true) (fun _ i _ => n - (intOf i).toNat)
      case atStart => exact ⟨0, Nat.zero_le _, rfl, rfl, B0.out, fun _ h => absurd h (Nat.not_lt_zero _)⟩
      case round =>
        obtain ⟨k, hk, rfl, rfl, hB, ha⟩ := hrel
        have BR := Lib.hid hB
        have HA := Lib.hid ha
        clear hB ha B0
        by_cases hlt : k < n
        · obtain ⟨b, o, rfl, hbl, c0, c1, c2, c3, c4, c5, c6, c7, c8, c9⟩ := (HR.out wr BR.out.1).cells (k := k) (by rw [HN.out]; exact hlt)
          have hlt2 : (k : Int) < (n : Int) := by omega
          have BH := Lib.hid (BR.out.next 137 #[.int .i64 (hx hs k).ad, .bool (hx hs k).eo, .int .i64 (hx hs k).ea, .int .i64 (hx hs k).eb, .int .i64 (hx hs k).et, .bool (hx hs k).oo, .int .i64 (hx hs k).oa, .int .i64 (hx hs k).ob, .int .i64 (hx hs k).ot, .int .i64 (hx hs k).fr])
          have BA := Lib.hid (BR.out.alloc (.cells #[.int .i64 (hx hs k).ad, .bool (hx hs k).eo, .int .i64 (hx hs k).ea, .int .i64 (hx hs k).eb, .int .i64 (hx hs k).et, .bool (hx hs k).oo, .int .i64 (hx hs k).oa, .int .i64 (hx hs k).ob, .int .i64 (hx hs k).ot, .int .i64 (hx hs k).fr] 137))
          have OL := Lib.hid (fun e => ok_last (m := m) (hs := hs) (k := k) e)
          have OO := Lib.hid (fun e => ok_one (m := m) (hs := hs) (k := k) e)
          have NX := Lib.hid (show lastA hs (k + 1) = (hx hs k).ad from rfl)
          have X1 := Lib.hid (fun w => isHeardBy (hx hs k) m w)
          generalize hh : hx hs k = h at *
          clear hh
          by_cases hl : h.ad ≤ lastA hs k
          · have HNO := Lib.hid (v_no (m := m) (hs := hs) (k := k) (by rw [HN.out]; exact hlt) (OL.out hl))
            have gl : decide (h.ad ≤ lastA hs k) = true := decide_eq_true hl
            clear OL OO hl X1
            generalize lastA hs k = l at *
            go_wp2_with fail
            go_ret
            exact ⟨by rw [HNO.out]; rfl, BA.out.1⟩
          · have HOK := Lib.hid (OO.out hl)
            have gl : decide (h.ad ≤ lastA hs k) = false := decide_eq_false hl
            clear OL OO hl
            generalize lastA hs k = l at *
            generalize rcv.one m h = q at *
            go_upto_region 7 with fail
            clear c0 c1 c2 c3 c4 c5 c6 c7 c8 c9
            generalize wr.alloc (.cells #[.int .i64 h.ad, .bool h.eo, .int .i64 h.ea, .int .i64 h.eb, .int .i64 h.et, .bool h.oo, .int .i64 h.oa, .int .i64 h.ob, .int .i64 h.ot, .int .i64 h.fr] 137) = V at *
            generalize wr.heap.size = g at *
            have d0 : V.cell? ⟨g, 0, none⟩ = some (.int .i64 h.ad) := BH.out.cell 0
            have d1 : V.cell? ⟨g, 1, none⟩ = some (.bool h.eo) := BH.out.cell 1
            have d2 : V.cell? ⟨g, 2, none⟩ = some (.int .i64 h.ea) := BH.out.cell 2
            have d3 : V.cell? ⟨g, 3, none⟩ = some (.int .i64 h.eb) := BH.out.cell 3
            have d4 : V.cell? ⟨g, 4, none⟩ = some (.int .i64 h.et) := BH.out.cell 4
            have d5 : V.cell? ⟨g, 5, none⟩ = some (.bool h.oo) := BH.out.cell 5
            have d6 : V.cell? ⟨g, 6, none⟩ = some (.int .i64 h.oa) := BH.out.cell 6
            have d7 : V.cell? ⟨g, 7, none⟩ = some (.int .i64 h.ob) := BH.out.cell 7
            have d8 : V.cell? ⟨g, 8, none⟩ = some (.int .i64 h.ot) := BH.out.cell 8
            have d9 : V.cell? ⟨g, 9, none⟩ = some (.int .i64 h.fr) := BH.out.cell 9
            have v0 : V.cell? ⟨w.heap.size, 0, none⟩ = some (.int .i64 m) := BA.out.cell 0
            go_wp2_with fail
            refine (X1.out _).mono ?_
            rintro e V2 ⟨rfl, hb2⟩
            have BV := Lib.hid (BA.out.old hb2)
            have BW := Lib.hid (BH.out.old hb2)
            clear d0 d1 d2 d3 d4 d5 d6 d7 d8 d9 v0 BA BH hb2 X1
            cases q
            · have HNO := Lib.hid (v_no (m := m) (hs := hs) (k := k) (by rw [HN.out]; exact hlt) HOK.out)
              go_wp2_with fail
              go_ret
              exact ⟨by rw [HNO.out]; rfl, BV.out.1⟩
            · have d0 : V2.cell? ⟨g, 0, none⟩ = some (.int .i64 h.ad) := BW.out.cell 0
              go_wp2_with fail
              go_roundw
              case rel => exact ⟨k + 1, by omega, by go_num, by rw [NX.out], BV.out, fun j hj => by
                rcases Nat.lt_or_ge j k with h | h
                · exact HA.out j h
                · obtain rfl : j = k := by omega
                  exact HOK.out⟩
              case measure => simp [intOf]; omega
        · obtain rfl : k = n := by omega
          have HV := Lib.hid (v_yes (m := m) (hs := hs) HM.out (by rw [HN.out]; exact H6.out) (fun j hj => HA.out j (by rw [← HN.out]; exact hj)))
          go_wp2_with fail
          go_ret
          exact ⟨by rw [HV.out]; rfl, BR.out.1⟩
    · rw [v_long h6]
      rw [hm] at h1
      have hd : decide ((6 : Int) < (hs.length : Int)) = true := decide_eq_true (by omega)
      generalize hs.length = n at *
      clear hm h hn h6
      go_enter Try.func138, Try.ntmps138
      go_wp2_with fail
      refine (h1 _).mono ?_
      rintro e w' ⟨rfl, rfl⟩
      go_wp2_with fail
      go_ret
      exact ⟨rfl, B0.out.1⟩

set_option maxRecDepth 100000 in
theorem canGoOn (m : Int) (hs : List Hd) (t : Int) (A : Option Addr) (c : Nat) (w : World) (hn : hs.length ≤ 1048577) (h : RdH w w.heap.size A hs) :
    Calls Try.prog 105 #[.agg #[.int .i64 m, .slice A hs.length c], .int .i64 t] w fun e w' => e = .returned (.bool (goB m hs t)) ∧ Below w.heap.size w w' := by
  have B0 := Lib.hid (newS 71 #[.int .i64 m, .slice A hs.length c] w)
  have X1 := Lib.hid (isValidReceiver m hs A c (w.alloc (.cells #[.int .i64 m, .slice A hs.length c] 71)) hn (h.next ((Below.refl _ _).alloc (Nat.le_refl _) _)))
  have h1 := fun w => isMinute t w
  have HE := Lib.hid (show goB m hs t = (vB m hs && (isIn t 0 9999 && decide (m ≤ t))) from rfl)
  rw [HE.out]
  clear HE
  generalize vB m hs = q1 at *
  generalize isIn t 0 9999 = q2 at *
  generalize hs.length = n at *
  clear h hn
  go_enter Try.func105, Try.ntmps105
  go_wp2_with fail
  generalize w.alloc (.cells #[.int .i64 m, .slice A n c] 71) = W at *
  refine X1.out.mono ?_
  rintro e W2 ⟨rfl, hb2⟩
  have B2 := Lib.hid (B0.out.old hb2)
  clear B0 hb2 X1
  cases q1
  · go_wp2_with fail
    go_ret
    exact ⟨rfl, B2.out.1⟩
  · go_wp2_with fail
    refine (h1 _).mono ?_
    rintro e w' ⟨rfl, rfl⟩
    cases q2
    · go_wp2_with fail
      go_ret
      exact ⟨rfl, B2.out.1⟩
    · have v0 : W2.cell? ⟨w.heap.size, 0, none⟩ = some (.int .i64 m) := B2.out.cell 0
      go_wp2_with fail
      go_ret
      exact ⟨rfl, B2.out.1⟩
end Go.Proofs.Ytdjcbfeilkepmaa.rcvb
