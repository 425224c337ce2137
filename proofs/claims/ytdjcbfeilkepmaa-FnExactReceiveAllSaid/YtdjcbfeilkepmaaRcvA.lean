/- spec's l9Minute, l9Half, l9Good, IsValidReceiver. -/
import Derived.Test.YtdjcbfeilkepmaaRcvM
import Derived.Test.YtdjcbfeilkepmaaFrmS
import Derived.Test.YtdjcbfeilkepmaaPosS
import Derived.BigQuiet
import Derived.Deep.QuietTactic
namespace Go.Proofs.Ytdjcbfeilkepmaa.rcva
open Go.RowKit Go.Proofs.Ytdjcbfeilkepmaa.in_ Go.Proofs.Ytdjcbfeilkepmaa.pos Go.Proofs.Ytdjcbfeilkepmaa.rcv Go.Proofs.Ytdjcbfeilkepmaa.rcvm Go.Proofs.Ytdjcbfeilkepmaa.ats

theorem minute9 (m : Int) (w : World) : Calls Try.prog 101 #[.int .i64 m] w fun e w' => e = .returned (.bool (isIn m 0 9999)) ∧ w = w' := by
  have h1 := fun w => l1In m 0 9999 w
  generalize isIn m 0 9999 = r at *
  go_enter Try.func101, Try.ntmps101
  go_wp2_with fail
  refine (h1 _).mono ?_
  rintro e w' ⟨rfl, rfl⟩
  go_wp2_with fail
  go_ret
  exact ⟨rfl, rfl⟩

theorem half9 (o : Bool) (a b t : Int) (odd : Bool) (m : Int) (w : World) :
    Calls Try.prog 134 #[.agg #[.bool o, .int .i64 a, .int .i64 b], .int .i64 t, .bool odd, .int .i64 m] w fun e w' => e = .returned (.bool (half o a b t odd m)) ∧ Below w.heap.size w w' := by
  have B0 := Lib.hid (newS 135 #[.bool o, .int .i64 a, .int .i64 b] w)
  by_cases ht : t = -1
  · have HE := Lib.hid (show half o a b t odd m = (!o && (decide (a = 0) && decide (b = 0))) by unfold half; rw [if_pos ht])
    subst ht
    rw [HE.out]
    clear HE
    cases o
    · by_cases ha : a = 0
      · subst ha
        by_cases hb : b = 0
        · subst hb
          go_enter Try.func134, Try.ntmps134
          go_wp2_with fail
          go_ret
          exact ⟨rfl, B0.out.1⟩
        · rw [decide_eq_false hb]
          go_enter Try.func134, Try.ntmps134
          go_wp2_with fail
          go_ret
          exact ⟨rfl, B0.out.1⟩
      · rw [decide_eq_false ha]
        go_enter Try.func134, Try.ntmps134
        go_wp2_with fail
        go_ret
        exact ⟨rfl, B0.out.1⟩
    · go_enter Try.func134, Try.ntmps134
      go_wp2_with fail
      go_ret
      exact ⟨rfl, B0.out.1⟩
  · have HE := Lib.hid (show half o a b t odd m = (isIn t 0 m && (rB o a b && (o == odd))) by unfold half; rw [if_neg ht])
    have g0 : (t == -1) = false := by simpa using ht
    rw [HE.out]
    clear HE ht
    have h1 := fun w => l1In t 0 m w
    have h2 := fun w => poss.report7 o a b w
    generalize isIn t 0 m = r1 at *
    generalize rB o a b = r2 at *
    have HX := Lib.hid (fun (W : World) (hb : Below w.heap.size w W) => hb)
    go_enter Try.func134, Try.ntmps134
    go_wp2_with fail
    refine (h1 _).mono ?_
    rintro e w' ⟨rfl, rfl⟩
    cases r1
    · go_wp2_with fail
      go_ret
      exact ⟨rfl, B0.out.1⟩
    · go_wp2_with fail
      refine (h2 _).mono ?_
      rintro e w2 ⟨rfl, hb2⟩
      have B2 := Lib.hid (B0.out.old hb2)
      cases r2
      · go_wp2_with fail
        go_ret
        exact ⟨rfl, B2.out.1⟩
      · have c0 : w2.cell? ⟨w.heap.size, 0, none⟩ = some (.bool o) := B2.out.cell 0
        go_wp2_with fail
        go_ret
        exact ⟨rfl, B2.out.1⟩

theorem ok_no {m : Int} {hs : List Hd} {k : Nat} (h : (isIn (hx hs k).ad 1 65535 && (upB hs k && isIn (hx hs k).fr 1 9999)) = false) : okA m hs k = false := by
  unfold okA rcv.one
  cases h1 : isIn (hx hs k).ad 1 65535 <;> cases h2 : upB hs k <;> cases h3 : isIn (hx hs k).fr 1 9999 <;> simp_all
theorem ok_half {m : Int} {hs : List Hd} {k : Nat} (h : (isIn (hx hs k).ad 1 65535 && (upB hs k && isIn (hx hs k).fr 1 9999)) = true) :
    okA m hs k = (half (hx hs k).eo (hx hs k).ea (hx hs k).eb (hx hs k).et false m && half (hx hs k).oo (hx hs k).oa (hx hs k).ob (hx hs k).ot true m) := by
  unfold okA rcv.one
  rw [Bool.and_eq_true, Bool.and_eq_true] at h
  rw [h.1, h.2.1, h.2.2, Bool.true_and, Bool.true_and, Bool.and_true]
theorem up_zero (hs : List Hd) : upB hs 0 = true := by unfold upB; exact decide_eq_true (.inl rfl)
theorem up_next (hs : List Hd) (k : Nat) : upB hs (k + 1) = !decide ((hx hs (k + 1)).ad ≤ (hx hs k).ad) := by
  unfold upB
  by_cases h : (hx hs k).ad < (hx hs (k + 1)).ad
  · rw [decide_eq_true (.inr (by simpa using h)), decide_eq_false (by omega)]; rfl
  · rw [decide_eq_false (by
      rintro (e | e)
      · omega
      · exact h (by simpa using e)), decide_eq_true (by omega)]; rfl

set_option maxRecDepth 100000 in
set_option maxHeartbeats 4000000 in
theorem good9 (m : Int) (hs : List Hd) (A : Option Addr) (c : Nat) (w : World) (hn : hs.length ≤ 1048577) (h : RdH w w.heap.size A hs) :
    Calls Try.prog 100 #[.agg #[.int .i64 m, .slice A hs.length c]] w fun e w' => e = .returned (.bool (vB m hs)) ∧ Below w.heap.size w w' := by
  have B0 := Lib.hid (newS 71 #[.int .i64 m, .slice A hs.length c] w)
  have h1 := fun w => minute9 m w
  cases hm : isIn m 0 9999
  · rw [v_min hm]
    rw [hm] at h1
    clear hm h hn
    go_enter Try.func100, Try.ntmps100
    go_wp2_with fail
    refine (h1 _).mono ?_
    rintro e w' ⟨rfl, rfl⟩
    go_wp2_with fail
    go_ret
    exact ⟨rfl, B0.out.1⟩
  · by_cases h6 : hs.length ≤ 6
    · have HM := Lib.hid hm
      rw [hm] at h1
      have hd : decide ((6 : Int) < (hs.length : Int)) = false := decide_eq_false (by omega)
      have HR := Lib.hid (fun (wr : World) (hb : Below w.heap.size w wr) => h.below hb (Nat.le_refl _))
      have H6 := Lib.hid h6
      have hn6 : (hs.length : Int) ≤ 6 := by omega
      generalize hN : hs.length = n at *
      have HN := Lib.hid hN
      clear hm h hn h6 hN
      go_enter Try.func100, Try.ntmps100
      go_wp2_with fail
      refine (h1 _).mono ?_
      rintro e w' ⟨rfl, rfl⟩
      generalize w.alloc (.cells #[.int .i64 m, .slice A n c] 71) = W at *
      have a0 : W.cell? ⟨w.heap.size, 0, none⟩ = some (.int .i64 m) := B0.out.cell 0
      have a1 : W.cell? ⟨w.heap.size, 1, none⟩ = some (.slice A n c) := B0.out.cell 1
      go_wp2_with fail
      clear a0 a1 h1
      go_loopw [3] (fun i wr => ∃ k : Nat, k ≤ n ∧ i = .int .i64 k ∧ AtS 71 #[.int .i64 m, .slice A n c] w wr w.heap.size ∧ ∀ j, j < k → okA m hs j = true) (fun i _ => n - (intOf i).toNat)
      case atStart => exact ⟨0, Nat.zero_le _, rfl, B0.out, fun _ h => absurd h (Nat.not_lt_zero _)⟩
      case round =>
        obtain ⟨k, hk, rfl, hB, ha⟩ := hrel
        have a0 : wr.cell? ⟨w.heap.size, 0, none⟩ = some (.int .i64 m) := hB.cell 0
        have a1 : wr.cell? ⟨w.heap.size, 1, none⟩ = some (.slice A n c) := hB.cell 1
        have BR := Lib.hid hB
        have HA := Lib.hid ha
        clear hB ha B0
        by_cases hlt : k < n
        · obtain ⟨b, o, rfl, hbl, c0, c1, c2, c3, c4, c5, c6, c7, c8, c9⟩ := (HR.out wr BR.out.1).cells (k := k) (by rw [HN.out]; exact hlt)
          have hlt2 : (k : Int) < (n : Int) := by omega
          have BH := Lib.hid (BR.out.next 137 #[.int .i64 (hx hs k).ad, .bool (hx hs k).eo, .int .i64 (hx hs k).ea, .int .i64 (hx hs k).eb, .int .i64 (hx hs k).et, .bool (hx hs k).oo, .int .i64 (hx hs k).oa, .int .i64 (hx hs k).ob, .int .i64 (hx hs k).ot, .int .i64 (hx hs k).fr])
          have BA := Lib.hid (BR.out.alloc (.cells #[.int .i64 (hx hs k).ad, .bool (hx hs k).eo, .int .i64 (hx hs k).ea, .int .i64 (hx hs k).eb, .int .i64 (hx hs k).et, .bool (hx hs k).oo, .int .i64 (hx hs k).oa, .int .i64 (hx hs k).ob, .int .i64 (hx hs k).ot, .int .i64 (hx hs k).fr] 137))
          have HAD := Lib.hid (fun w d => Calls.quiet_of_same (flip (frms.address5 (hx hs k).ad (World.drewN w d))))
          have HFR := Lib.hid (fun w d => Calls.quiet_of_same (flip (l1In (hx hs k).fr 1 9999 (World.drewN w d))))
          have HUP : (k = 0 ∧ upB hs k = true) ∨ ∃ k', k = k' + 1 ∧ upB hs k = !decide ((hx hs k).ad ≤ (hx hs k').ad) := by
            rcases k with _ | k'
            · exact .inl ⟨rfl, up_zero hs⟩
            · exact .inr ⟨k', rfl, up_next hs k'⟩
          have PREV := Lib.hid (fun (k' : Nat) (hk' : k' < n) => (HR.out wr BR.out.1).cells (k := k') (by rw [HN.out]; exact hk'))
          have ON := Lib.hid (fun e => ok_no (m := m) (hs := hs) (k := k) e)
          have OH := Lib.hid (fun e => ok_half (m := m) (hs := hs) (k := k) e)
          generalize hh : hx hs k = h at *
          have HH := Lib.hid hh
          clear hh
          go_upto_region 7 with fail
          clear c0 c1 c2 c3 c4 c5 c6 c7 c8 c9
          generalize hW : wr.alloc (.cells #[.int .i64 h.ad, .bool h.eo, .int .i64 h.ea, .int .i64 h.eb, .int .i64 h.et, .bool h.oo, .int .i64 h.oa, .int .i64 h.ob, .int .i64 h.ot, .int .i64 h.fr] 137) = V at *
          have HW := Lib.hid hW
          clear hW
          have d0 : V.cell? ⟨wr.heap.size, 0, none⟩ = some (.int .i64 h.ad) := BH.out.cell 0
          have d9 : V.cell? ⟨wr.heap.size, 9, none⟩ = some (.int .i64 h.fr) := BH.out.cell 9
          have v1 : V.cell? ⟨w.heap.size, 1, none⟩ = some (.slice (some ⟨b, o, none⟩) n c) := BA.out.cell 1
          generalize isIn h.ad 1 65535 = r1 at *
          generalize isIn h.fr 1 9999 = r3 at *
          generalize upB hs k = r2 at *
          go_cut [52] from 27 to 52 (fun s wx => s = .bool (!(r1 && (r2 && r3))) ∧ ∃ j, wx = V.drewN j)
          case first =>
            cases r1
            · clear HUP PREV
              go_quiet (first
                | (go_at_call 133; with_reducible exact HAD.out _ _))
              go_wp2_with fail
              go_meet
              exact ⟨rfl, _, rfl⟩
            · rcases HUP with ⟨rfl, rfl⟩ | ⟨k', hkk, rfl⟩
              · clear PREV
                cases r3
                all_goals
                  go_quiet (first
                    | (go_at_call 133; with_reducible exact HAD.out _ _)
                    | (go_at_call 77; with_reducible exact HFR.out _ _))
                  go_wp2_with fail
                  go_meet
                  exact ⟨rfl, _, rfl⟩
              · obtain ⟨b', o', eb, hbl', p0, -⟩ := PREV.out k' (by omega)
                injection eb with eb
                injection eb with eb1 eb2
                subst eb1 eb2
                have p0 : V.cell? ⟨b, o + k' * 10, none⟩ = some (.int .i64 (hx hs k').ad) := by rw [← HW.out]; exact (World.cell?_alloc_lt wr _ ⟨b, o + k' * 10, none⟩ (Nat.lt_of_lt_of_le hbl' BR.out.1.size)).trans p0
                generalize (hx hs k').ad = pa at *
                clear PREV
                have e0 : decide (0 < k) = true := decide_eq_true (by omega)
                have e1 : wrap64 ((k : Int) - 1) = (k' : Int) := by rw [IntWalk.wrap64_in _ ⟨by omega, by omega⟩]; omega
                have e3 : IntKind.i64.wrap ((k : Int) - 1) = (k' : Int) := by rw [IntWalk.i64_in _ (by omega)]; omega
                have e2 : (k' : Int) < (n : Int) := by omega
                clear hkk
                generalize hr2 : decide (h.ad ≤ pa) = r2 at *
                cases r2
                all_goals
                  cases r3
                  all_goals
                    go_quiet (first
                      | (go_at_call 133; with_reducible exact HAD.out _ _)
                      | (go_at_call 77; with_reducible exact HFR.out _ _))
                    go_wp2_with fail
                    go_meet
                    exact ⟨rfl, _, rfl⟩
          case rest =>
            obtain ⟨rfl, j, rfl⟩ := hcut
            clear HUP PREV HAD HFR d0 d9 v1
            cases hq : (r1 && (r2 && r3))
            · have HNO := Lib.hid (v_no (m := m) (hs := hs) (k := k) (by rw [HN.out]; exact hlt) (ON.out hq))
              clear ON OH
              go_wp2_with fail
              go_ret
              exact ⟨by rw [HNO.out]; rfl, (BA.out.drewN j).1⟩
            · have HOK := Lib.hid (OH.out hq)
              have BV := Lib.hid (BA.out.drewN j)
              have BW := Lib.hid (BH.out.drewN j)
              clear ON OH BA BH
              have X1 := Lib.hid (fun w => half9 h.eo h.ea h.eb h.et false m w)
              have X2 := Lib.hid (fun w => half9 h.oo h.oa h.ob h.ot true m w)
              generalize half h.eo h.ea h.eb h.et false m = q1 at *
              generalize half h.oo h.oa h.ob h.ot true m = q2 at *
              generalize V.drewN j = V2 at *
              generalize wr.heap.size = g at *
              have f1 : V2.cell? ⟨g, 1, none⟩ = some (.bool h.eo) := BW.out.cell 1
              have f2 : V2.cell? ⟨g, 2, none⟩ = some (.int .i64 h.ea) := BW.out.cell 2
              have f3 : V2.cell? ⟨g, 3, none⟩ = some (.int .i64 h.eb) := BW.out.cell 3
              have f4 : V2.cell? ⟨g, 4, none⟩ = some (.int .i64 h.et) := BW.out.cell 4
              have v0 : V2.cell? ⟨w.heap.size, 0, none⟩ = some (.int .i64 m) := BV.out.cell 0
              go_wp2_with fail
              refine (X1.out _).mono ?_
              rintro e V3 ⟨rfl, hb3⟩
              have BV3 := Lib.hid (BV.out.old hb3)
              have BW3 := Lib.hid (BW.out.old hb3)
              clear f1 f2 f3 f4 v0 BV BW hb3
              cases q1
              · have HNO := Lib.hid (v_no (m := m) (hs := hs) (k := k) (by rw [HN.out]; exact hlt) HOK.out)
                clear HOK
                go_wp2_with fail
                go_ret
                exact ⟨by rw [HNO.out]; rfl, BV3.out.1⟩
              · have f1 : V3.cell? ⟨g, 5, none⟩ = some (.bool h.oo) := BW3.out.cell 5
                have f2 : V3.cell? ⟨g, 6, none⟩ = some (.int .i64 h.oa) := BW3.out.cell 6
                have f3 : V3.cell? ⟨g, 7, none⟩ = some (.int .i64 h.ob) := BW3.out.cell 7
                have f4 : V3.cell? ⟨g, 8, none⟩ = some (.int .i64 h.ot) := BW3.out.cell 8
                have v0 : V3.cell? ⟨w.heap.size, 0, none⟩ = some (.int .i64 m) := BV3.out.cell 0
                go_wp2_with fail
                refine (X2.out _).mono ?_
                rintro e V4 ⟨rfl, hb4⟩
                have BV4 := Lib.hid (BV3.out.old hb4)
                clear f1 f2 f3 f4 v0 BV3 BW3 hb4
                cases q2
                · have HNO := Lib.hid (v_no (m := m) (hs := hs) (k := k) (by rw [HN.out]; exact hlt) HOK.out)
                  clear HOK
                  go_wp2_with fail
                  go_ret
                  exact ⟨by rw [HNO.out]; rfl, BV4.out.1⟩
                · go_wp2_with fail
                  go_roundw
                  case rel =>
                    exact ⟨k + 1, by omega, by go_num, BV4.out, fun j hj => by
                      rcases Nat.lt_or_ge j k with h | h
                      · exact HA.out j h
                      · obtain rfl : j = k := by omega
                        exact HOK.out⟩
                  case measure => simp [intOf]; omega
        · obtain rfl : k = n := by omega
          have HV := Lib.hid (v_yes (m := m) (hs := hs) HM.out (by rw [HN.out]; exact H6.out) (fun j hj => HA.out j (by rw [← HN.out]; exact hj)))
          go_wp2_with fail
          go_ret
          exact ⟨by rw [HV.out]; rfl, BR.out.1⟩
    · rw [v_long h6]
      rw [hm] at h1
      have hd : decide ((6 : Int) < (hs.length : Int)) = true := decide_eq_true (by omega)
      generalize hs.length = n at *
      clear hm h hn h6
      go_enter Try.func100, Try.ntmps100
      go_wp2_with fail
      refine (h1 _).mono ?_
      rintro e w' ⟨rfl, rfl⟩
      go_wp2_with fail
      go_ret
      exact ⟨rfl, B0.out.1⟩
end Go.Proofs.Ytdjcbfeilkepmaa.rcva
