/- impl's frameOfBody, RepairFrame, DecodeFrame. -/
import Derived.Test.YtdjcbfeilkepmaaFrmI
import Derived.Test.YtdjcbfeilkepmaaFrmE
import Derived.Test.YtdjcbfeilkepmaaAtS
import Derived.Test.YtdjcbfeilkepmaaParQ
import Derived.Test.YtdjcbfeilkepmaaBitsI
namespace Go.Proofs.Ytdjcbfeilkepmaa.frmk
open Go.RowKit Go.Proofs.Ytdjcbfeilkepmaa.bin Go.Proofs.Ytdjcbfeilkepmaa.good_ Go.Proofs.Ytdjcbfeilkepmaa.par Go.Proofs.Ytdjcbfeilkepmaa.in_ Go.Proofs.Ytdjcbfeilkepmaa.frm Go.Proofs.Ytdjcbfeilkepmaa.frms Go.Proofs.Ytdjcbfeilkepmaa.at3 Go.Proofs.Ytdjcbfeilkepmaa.frmd Go.Proofs.Ytdjcbfeilkepmaa.frme

theorem fieldN (b : ByteArray) (h56 : b.size = 56) (ho : ok 2 b.data.toList = true) (f m : Nat) (h1 : 1 ≤ m) (h30 : m ≤ 30) (h44 : f + m ≤ 44) (w : World) :
    Calls Try.prog 202 #[.string (b.extract 0 44), .int .i64 f, .int .i64 m] w
      fun e w' => e = .returned (.tuple #[.int .i64 (dec 2 (b.extract f (f + m)).data.toList : Nat), .bool true]) ∧ w = w' := by
  have hs : (b.extract 0 44).size = 44 := by rw [ByteArray.size_extract, h56]; rfl
  have h := bitsi.fieldOf (b.extract 0 44) f m w (by rw [hs]; unfold maxLen; omega) (by omega) (by omega)
  have hr : rdB 2 64 (b.extract 0 44) = true := by unfold rdB; rw [bitsi.sub_ok ho, hs]; rfl
  have hB : bitsi.fldB (b.extract 0 44) f m = true := by unfold bitsi.fldB; rw [hr, hs, decide_eq_true (by omega)]; rfl
  have hx : ((b.extract 0 44).extract f (f + m)) = b.extract f (f + m) := by
    apply aid.str_ext
    rw [bitsi.sub_list, bitsi.sub_list, bitsi.sub_list]
    rw [List.drop_zero, List.drop_take, List.take_take, show f + m - f = m by omega, show min m (44 - 0 - f) = m by omega]
  have hV : bitsi.fldV (b.extract 0 44) f m = dec 2 (b.extract f (f + m)).data.toList := by
    unfold bitsi.fldV
    rw [hB, if_pos rfl, show ((f : Int)).toNat = f by omega, show ((f : Int) + (m : Int)).toNat = f + m by omega, hx]
  rw [hB, hV] at h
  exact h

theorem next3 {w W : World} {b : Nat} {x y z : Int} (h : At3 w W b x y z) (k a d : Int) : At3 w (W.alloc (.cells #[.int .i64 k, .int .i64 a, .int .i64 d] 155)) W.heap.size k a d := by
  have h1 := new3 W k a d
  exact ⟨h.1.trans (h1.1.mono h.1.size), h.1.size, h1.2.2.1, h1.2.2.2⟩

set_option maxRecDepth 100000 in
theorem bodyFrame (b : ByteArray) (w : World) (h56 : b.size = 56) (ho : ok 2 b.data.toList = true) :
    Calls Try.prog 172 #[.string (b.extract 0 44)] w
      fun e w' => e = .returned (fv (if dG b then dK b else 0 : Nat) (if dG b then dA b else 0 : Nat) (if dG b then dD b else 0 : Nat)) ∧ Below w.heap.size w w' := by
  have H1 := Lib.hid (fun w => fieldN b h56 ho 0 4 (by omega) (by omega) (by omega) w)
  have H2 := Lib.hid (fun w => fieldN b h56 ho 4 16 (by omega) (by omega) (by omega) w)
  have H3 := Lib.hid (fun w => fieldN b h56 ho 20 24 (by omega) (by omega) (by omega) w)
  have H1 := Lib.hid (show ∀ w, Calls Try.prog 202 #[.string (b.extract 0 44), .int .i64 0, .int .i64 4] w fun e w' => e = .returned (.tuple #[.int .i64 (dK b), .bool true]) ∧ w = w' from H1.out)
  have H2 := Lib.hid (show ∀ w, Calls Try.prog 202 #[.string (b.extract 0 44), .int .i64 4, .int .i64 16] w fun e w' => e = .returned (.tuple #[.int .i64 (dA b), .bool true]) ∧ w = w' from H2.out)
  have H3 := Lib.hid (show ∀ w, Calls Try.prog 202 #[.string (b.extract 0 44), .int .i64 20, .int .i64 24] w fun e w' => e = .returned (.tuple #[.int .i64 (dD b), .bool true]) ∧ w = w' from H3.out)
  have hg := fun w => frmi.isValid (dK b) (dA b) (dD b) w
  have hG : good (dK b) (dA b) (dD b) = dG b := rfl
  rw [hG] at hg
  have HW := Lib.hid (new3 w 0 0 0)
  clear hG h56 ho
  generalize dG b = g at *
  generalize dK b = k at *
  generalize dA b = a at *
  generalize dD b = d at *
  generalize b.extract 0 44 = t at *
  have HG := Lib.hid hg
  clear hg
  cases g
  all_goals
    go_enter Try.func172, Try.ntmps172
    go_wp2_with fail
    generalize w.alloc (.cells #[.int .i64 0, .int .i64 0, .int .i64 0] 155) = W at *
    refine (H1.out _).mono ?_
    rintro e w1 ⟨rfl, rfl⟩
    go_wp2_with fail
    refine (H2.out _).mono ?_
    rintro e w1 ⟨rfl, rfl⟩
    go_wp2_with fail
    refine (H3.out _).mono ?_
    rintro e w1 ⟨rfl, rfl⟩
    have HX := Lib.hid (HW.out.old ((Below.refl _ _).alloc (Nat.le_refl _) (.cells #[.int .i64 k, .int .i64 a, .int .i64 d] 155)))
    have HF := Lib.hid (next3 HW.out k a d)
    go_wp2_with fail
    generalize W.alloc (.cells #[.int .i64 k, .int .i64 a, .int .i64 d] 155) = W1 at *
    generalize W.heap.size = bf at *
    refine (HG.out _).mono ?_
    rintro e w2 ⟨rfl, hb2⟩
    have HB := Lib.hid (HX.out.old hb2)
    have HF2 := Lib.hid (HF.out.old hb2)
    obtain ⟨b0, b1, b2⟩ := HB.out.cells
    obtain ⟨c0, c1, c2⟩ := HB.out.frozen
    obtain ⟨f0, f1, f2⟩ := HF2.out.cells
    clear hb2
    go_wp2_with fail
  · have HE := HB.out.set 0 0 0
    have hl := HE.load
    refine bodyPost_ret (v := fv 0 0 0) ?_ rfl ⟨rfl, HE.1⟩
    rw [ats.results_cell1 rfl]
    simp [asAddr, Result.andThen, hl, fv]
  · have HE := HB.out.set k a d
    have hl := HE.load
    refine bodyPost_ret (v := fv k a d) ?_ rfl ⟨rfl, HE.1⟩
    rw [ats.results_cell1 rfl]
    simp [asAddr, Result.andThen, hl, fv]

set_option maxRecDepth 100000 in
set_option maxHeartbeats 1000000 in
theorem repairFrame (s : ByteArray) (w : World) :
    Calls Try.prog 140 #[.string s] w fun e w' => e = .returned (.tuple #[fv (rfK s) (rfA s) (rfD s), .int .i64 (rfI s), .bool (rfB s)]) ∧ Below w.heap.size w w' := by
  have hc := fun w => bitsi.bitsFromHex s w
  have HW := Lib.hid (new3 w 0 0 0)
  cases hb : rdB 16 16 s
  · have HN := Lib.hid (rf_no (s := s) (by unfold rfB hexB; rw [hb]; rfl))
    rw [hb] at hc
    have HC := Lib.hid hc
    clear hc hb
    generalize bitsi.unhexT s = T at *
    go_enter Try.func140, Try.ntmps140
    go_wp2_with fail
    generalize w.alloc (.cells #[.int .i64 0, .int .i64 0, .int .i64 0] 155) = W at *
    refine (HC.out _).mono ?_
    rintro e w2 ⟨rfl, hb2⟩
    have HB := Lib.hid (HW.out.old hb2)
    obtain ⟨b0, b1, b2⟩ := HB.out.cells
    obtain ⟨c0, c1, c2⟩ := HB.out.frozen
    go_wp2_with fail
    have HE := HB.out.set 0 0 0
    have hl := HE.load
    refine bodyPost_ret (v := .tuple #[fv 0 0 0, .int .i64 0, .bool false]) ?_ rfl ⟨by rw [HN.out], HE.1⟩
    rw [results_cell_tmp2 rfl]
    simp [asAddr, Result.andThen, hl, fv]
  · rw [hb] at hc
    have hz := un_size hb
    by_cases h14 : s.size = 14
    · have hx : hexB s = true := by unfold hexB; rw [hb, decide_eq_true h14]; rfl
      have hz56 : (bitsi.unhexT s).size = 56 := by omega
      have hsn : sndB (bitsi.unhexT s) = true := snd_yes (by unfold rdB; rw [un_ok hb, decide_eq_true (by omega)]; rfl) (by omega)
      have hr := fun w => parq.repairBit (bitsi.unhexT s) w
      have d1 : (((bitsi.unhexT s).size : Int) != 56) = false := by rw [hz56]; rfl
      have hrf : rfB s = (repB (bitsi.unhexT s) && dG (repT (bitsi.unhexT s))) := by unfold rfB; rw [hx]; rfl
      cases hrb : repB (bitsi.unhexT s)
      · have HN := Lib.hid (rf_no (s := s) (by rw [hrf, hrb]; rfl))
        rw [hrb] at hr
        have HR := Lib.hid hr
        have HC := Lib.hid hc
        clear hc hb hz h14 hx hz56 hsn hr hrf hrb
        generalize bitsi.unhexT s = T at *
        generalize repT T = R at *
        generalize repI T = i at *
        go_enter Try.func140, Try.ntmps140
        go_wp2_with fail
        generalize w.alloc (.cells #[.int .i64 0, .int .i64 0, .int .i64 0] 155) = W at *
        refine (HC.out _).mono ?_
        rintro e w2 ⟨rfl, hb2⟩
        have HB := Lib.hid (HW.out.old hb2)
        go_wp2_with fail
        refine (HR.out _).mono ?_
        rintro e w3 ⟨rfl, hb3⟩
        have HB3 := Lib.hid (HB.out.old hb3)
        obtain ⟨b0, b1, b2⟩ := HB3.out.cells
        obtain ⟨c0, c1, c2⟩ := HB3.out.frozen
        go_wp2_with fail
        have HE := HB3.out.set 0 0 0
        have hl := HE.load
        refine bodyPost_ret (v := .tuple #[fv 0 0 0, .int .i64 0, .bool false]) ?_ rfl ⟨by rw [HN.out], HE.1⟩
        rw [results_cell_tmp2 rfl]
        simp [asAddr, Result.andThen, hl, fv]
      · have hrs := rep_size hsn hrb
        have hd := fun w => bodyFrame (repT (bitsi.unhexT s)) w (by rw [hrs.1]; exact hz56) hrs.2
        have z44 : (44 : Int) ≤ ((repT (bitsi.unhexT s)).size : Int) := by rw [hrs.1, hz56]; omega
        have hpos := (show dG (repT (bitsi.unhexT s)) = true → 1 ≤ dK (repT (bitsi.unhexT s)) from fun h => by have := (good_iff.1 h).1; omega)
        rw [hrb] at hr
        have HR := Lib.hid hr
        have HC := Lib.hid hc
        have HY := Lib.hid (fun (h : dG (repT (bitsi.unhexT s)) = true) => rf_yes (s := s) (by rw [hrf, hrb, h]; rfl))
        have HN := Lib.hid (fun (h : dG (repT (bitsi.unhexT s)) = false) => rf_no (s := s) (by rw [hrf, hrb, h]; rfl))
        have HD := Lib.hid (show ∀ w, Calls Try.prog 172 #[.string ((repT (bitsi.unhexT s)).extract 0 44)] w fun e w' => e = .returned (.agg #[.int .i64 ((if dG (repT (bitsi.unhexT s)) then dK (repT (bitsi.unhexT s)) else 0 : Nat) : Int), .int .i64 ((if dG (repT (bitsi.unhexT s)) then dA (repT (bitsi.unhexT s)) else 0 : Nat) : Int), .int .i64 ((if dG (repT (bitsi.unhexT s)) then dD (repT (bitsi.unhexT s)) else 0 : Nat) : Int)]) ∧ Below w.heap.size w w' from hd)
        clear hc hb hz h14 hx hz56 hsn hr hrf hrb hrs hd
        generalize bitsi.unhexT s = T at *
        generalize repI T = i at *
        generalize repT T = R at *
        generalize dG R = g at *
        generalize dK R = k at *
        generalize dA R = a at *
        generalize dD R = d at *
        cases g
        · have HN' := Lib.hid (HN.out rfl)
          have HD' := Lib.hid (show ∀ w, Calls Try.prog 172 #[.string (R.extract 0 44)] w fun e w' => e = .returned (.agg #[.int .i64 0, .int .i64 0, .int .i64 0]) ∧ Below w.heap.size w w' from HD.out)
          clear HN HY HD hpos
          go_enter Try.func140, Try.ntmps140
          go_wp2_with fail
          generalize w.alloc (.cells #[.int .i64 0, .int .i64 0, .int .i64 0] 155) = W at *
          refine (HC.out _).mono ?_
          rintro e w2 ⟨rfl, hb2⟩
          have HB := Lib.hid (HW.out.old hb2)
          go_wp2_with fail
          refine (HR.out _).mono ?_
          rintro e w3 ⟨rfl, hb3⟩
          have HB3 := Lib.hid (HB.out.old hb3)
          clear hb2 hb3
          go_wp2_with fail
          refine (HD'.out _).mono ?_
          rintro e w4 ⟨rfl, hb4⟩
          have HX := Lib.hid ((HB3.out.old hb4).old ((Below.refl _ _).alloc (Nat.le_refl _) (.cells #[.int .i64 0, .int .i64 0, .int .i64 0] 155)))
          obtain ⟨b0, b1, b2⟩ := HX.out.cells
          obtain ⟨c0, c1, c2⟩ := HX.out.frozen
          clear hb4
          go_wp2_with fail
          have HE := HX.out.set 0 0 0
          have hl := HE.load
          refine bodyPost_ret (v := .tuple #[fv 0 0 0, .int .i64 0, .bool false]) ?_ rfl ⟨by rw [HN'.out], HE.1⟩
          rw [results_cell_tmp2 rfl]
          simp [asAddr, Result.andThen, hl, fv]
        · have HY' := Lib.hid (HY.out rfl)
          have HD' := Lib.hid (show ∀ w, Calls Try.prog 172 #[.string (R.extract 0 44)] w fun e w' => e = .returned (.agg #[.int .i64 k, .int .i64 a, .int .i64 d]) ∧ Below w.heap.size w w' from HD.out)
          have hk := hpos rfl
          have hk0 : ((k : Int) == 0) = false := by simp; omega
          clear HN HY HD hpos hk
          go_enter Try.func140, Try.ntmps140
          go_wp2_with fail
          generalize w.alloc (.cells #[.int .i64 0, .int .i64 0, .int .i64 0] 155) = W at *
          refine (HC.out _).mono ?_
          rintro e w2 ⟨rfl, hb2⟩
          have HB := Lib.hid (HW.out.old hb2)
          go_wp2_with fail
          refine (HR.out _).mono ?_
          rintro e w3 ⟨rfl, hb3⟩
          have HB3 := Lib.hid (HB.out.old hb3)
          clear hb2 hb3
          go_wp2_with fail
          refine (HD'.out _).mono ?_
          rintro e w4 ⟨rfl, hb4⟩
          have HX := Lib.hid ((HB3.out.old hb4).old ((Below.refl _ _).alloc (Nat.le_refl _) (.cells #[.int .i64 k, .int .i64 a, .int .i64 d] 155)))
          obtain ⟨b0, b1, b2⟩ := HX.out.cells
          obtain ⟨c0, c1, c2⟩ := HX.out.frozen
          clear hb4
          go_wp2_with fail
          have HE := HX.out.set k a d
          have hl := HE.load
          refine bodyPost_ret (v := .tuple #[fv k a d, .int .i64 i, .bool true]) ?_ rfl ⟨by rw [HY'.out], HE.1⟩
          rw [results_cell_tmp2 rfl]
          simp [asAddr, Result.andThen, hl, fv]
    · have HN := Lib.hid (rf_no (s := s) (by unfold rfB hexB; rw [decide_eq_false h14]; simp))
      have d1 : (((bitsi.unhexT s).size : Int) != 56) = true := by simp; omega
      have HC := Lib.hid hc
      clear hc hb hz h14
      generalize bitsi.unhexT s = T at *
      go_enter Try.func140, Try.ntmps140
      go_wp2_with fail
      generalize w.alloc (.cells #[.int .i64 0, .int .i64 0, .int .i64 0] 155) = W at *
      refine (HC.out _).mono ?_
      rintro e w2 ⟨rfl, hb2⟩
      have HB := Lib.hid (HW.out.old hb2)
      obtain ⟨b0, b1, b2⟩ := HB.out.cells
      obtain ⟨c0, c1, c2⟩ := HB.out.frozen
      go_wp2_with fail
      have HE := HB.out.set 0 0 0
      have hl := HE.load
      refine bodyPost_ret (v := .tuple #[fv 0 0 0, .int .i64 0, .bool false]) ?_ rfl ⟨by rw [HN.out], HE.1⟩
      rw [results_cell_tmp2 rfl]
      simp [asAddr, Result.andThen, hl, fv]

theorem rep_sound {T : ByteArray} (hs : sndB T = true) (h0 : syn T = 0) : repB T = true ∧ repT T = T ∧ repI T = -1 := by
  have h : repB T = true := by unfold repB; rw [hs, decide_eq_true h0]; rfl
  refine ⟨h, ?_, ?_⟩
  · unfold repT; rw [h, if_pos rfl, if_pos h0]
  · unfold repI; rw [h, if_pos rfl, if_pos h0]
theorem rep_wrong {T : ByteArray} (h0 : syn T ≠ 0) : (repI T == -1) = false := by
  unfold repI
  cases h : repB T
  · rfl
  · rw [if_pos rfl, if_neg h0]
    simp
theorem hex_snd {s : ByteArray} (hx : hexB s = true) : sndB (bitsi.unhexT s) = true := by
  unfold hexB at hx
  rw [Bool.and_eq_true] at hx
  have h14 := of_decide_eq_true hx.2
  have hz := un_size hx.1
  exact snd_yes (by unfold rdB; rw [un_ok hx.1, decide_eq_true (by omega)]; rfl) (by omega)
/-- Decoding is a repair that finds nothing wrong. -/
theorem dc_rf (s : ByteArray) : dcB s = (rfB s && (rfI s == -1)) ∧ (dcB s = true → rfK s = dcK s ∧ rfA s = dcA s ∧ rfD s = dcD s) := by
  by_cases hx : hexB s = true
  · by_cases h0 : syn (bitsi.unhexT s) = 0
    · obtain ⟨r1, r2, r3⟩ := rep_sound (hex_snd hx) h0
      have hr : rfB s = dG (bitsi.unhexT s) := by unfold rfB; rw [hx, r1, r2, Bool.true_and, Bool.true_and]
      have hd : dcB s = dG (bitsi.unhexT s) := by unfold dcB; rw [hx, decide_eq_true h0, Bool.true_and, Bool.true_and]
      unfold rfI rfK rfA rfD dcK dcA dcD
      rw [hr, hd, r2, r3]
      refine ⟨?_, fun h => ?_⟩
      · generalize dG (bitsi.unhexT s) = g
        cases g <;> rfl
      · rw [h, if_pos rfl, if_pos rfl, if_pos rfl]
        exact ⟨rfl, rfl, rfl⟩
    · have hd : dcB s = false := by unfold dcB; rw [decide_eq_false h0]; simp
      refine ⟨?_, fun h => by rw [hd] at h; cases h⟩
      have hw := rep_wrong h0
      unfold rfI
      rw [hd]
      cases rfB s
      · rfl
      · rw [if_pos rfl, hw]; rfl
  · have hx' : hexB s = false := by simpa using hx
    have hd : dcB s = false := by unfold dcB; rw [hx']; rfl
    have hr : rfB s = false := by unfold rfB; rw [hx']; rfl
    refine ⟨by rw [hd, hr]; rfl, fun h => by rw [hd] at h; cases h⟩

end Go.Proofs.Ytdjcbfeilkepmaa.frmk
