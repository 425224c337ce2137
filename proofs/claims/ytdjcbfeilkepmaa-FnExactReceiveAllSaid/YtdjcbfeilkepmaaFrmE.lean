/- spec's DecodeFrame and RepairFrame. -/
import Derived.Test.YtdjcbfeilkepmaaFrmD
namespace Go.Proofs.Ytdjcbfeilkepmaa.frme
open Go.RowKit Go.Proofs.Ytdjcbfeilkepmaa.bin Go.Proofs.Ytdjcbfeilkepmaa.good_ Go.Proofs.Ytdjcbfeilkepmaa.par Go.Proofs.Ytdjcbfeilkepmaa.in_ Go.Proofs.Ytdjcbfeilkepmaa.frm Go.Proofs.Ytdjcbfeilkepmaa.frms Go.Proofs.Ytdjcbfeilkepmaa.at3 Go.Proofs.Ytdjcbfeilkepmaa.frmd

theorem dc_no {s : ByteArray} (h : dcB s = false) : (Value.tuple #[fv 0 0 0, .bool false]) = .tuple #[fv (dcK s) (dcA s) (dcD s), .bool (dcB s)] := by unfold dcK dcA dcD; rw [h]; rfl
theorem dc_yes {s : ByteArray} (h : dcB s = true) : (Value.tuple #[fv (dK (bitsi.unhexT s)) (dA (bitsi.unhexT s)) (dD (bitsi.unhexT s)), .bool true]) = .tuple #[fv (dcK s) (dcA s) (dcD s), .bool (dcB s)] := by unfold dcK dcA dcD; rw [h]; rfl
theorem un_size {s : ByteArray} (h : rdB 16 16 s = true) : (bitsi.unhexT s).size = 4 * s.size := by unfold bitsi.unhexT; rw [h]; exact e_size 2 (4 * s.size) _
theorem un_ok {s : ByteArray} (h : rdB 16 16 s = true) : ok 2 (bitsi.unhexT s).data.toList = true := by unfold bitsi.unhexT; rw [h]; exact e_ok (4 * s.size) _

theorem results_cell_tmp2 {fn : Func} {p u v : Tmp} {ty : TypeId} (h : fn.results = #[.cell p ty, .tmp u, .tmp v]) (tmps : Array Value) (P : Program) (w : World) :
    (results fn tmps).run P w =
      ((asAddr (tmps.getD p undef)).run P w).andThen fun a w₁ => ((loadVar ty a).run P w₁).andThen fun x w₂ => .ok (.tuple #[x, tmps.getD u undef, tmps.getD v undef]) w₂ := by
  simp only [results, h]
  simp [Sem.run_bind, Result.andThen]
theorem rf_no {s : ByteArray} (h : rfB s = false) : (Value.tuple #[fv 0 0 0, .int .i64 0, .bool false]) = .tuple #[fv (rfK s) (rfA s) (rfD s), .int .i64 (rfI s), .bool (rfB s)] := by unfold rfK rfA rfD rfI; rw [h]; rfl
theorem rf_yes {s : ByteArray} (h : rfB s = true) : (Value.tuple #[fv (dK (repT (bitsi.unhexT s))) (dA (repT (bitsi.unhexT s))) (dD (repT (bitsi.unhexT s))), .int .i64 (repI (bitsi.unhexT s)), .bool true]) = .tuple #[fv (rfK s) (rfA s) (rfD s), .int .i64 (rfI s), .bool (rfB s)] := by unfold rfK rfA rfD rfI; rw [h]; rfl
theorem rep_size {T : ByteArray} (hs : sndB T = true) (hb : repB T = true) : (repT T).size = T.size ∧ ok 2 (repT T).data.toList = true := by
  have h1 := snd_of hs
  have h2 := bitsi.rd_ok h1.1
  unfold repT
  rw [hb, if_pos rfl]
  by_cases h0 : syn T = 0
  · rw [if_pos h0]
    exact ⟨rfl, h2.2⟩
  · rw [if_neg h0]
    have hk : repK T < T.size := by unfold repK; omega
    exact ⟨parr.flip_size hk, (parr.flip_dec h1.1 hk).1⟩

set_option maxHeartbeats 1000000 in
theorem repair5 (s : ByteArray) (w : World) (hm : s.size ≤ maxLen) :
    Calls Try.prog 135 #[.string s] w fun e w' => e = .returned (.tuple #[fv (rfK s) (rfA s) (rfD s), .int .i64 (rfI s), .bool (rfB s)]) ∧ Below w.heap.size w w' := by
  have hc := fun w => hexs.l2FromHex s w hm
  have HW := Lib.hid (new3 w 0 0 0)
  cases hb : rdB 16 16 s
  · have HN := Lib.hid (rf_no (s := s) (by unfold rfB hexB; rw [hb]; rfl))
    rw [hb] at hc
    have HC := Lib.hid hc
    clear hc hb hm
    generalize bitsi.unhexT s = T at *
    go_enter Try.func135, Try.ntmps135
    go_wp2_with fail
    generalize w.alloc (.cells #[.int .i64 0, .int .i64 0, .int .i64 0] 155) = W at *
    refine (HC.out _).mono ?_
    rintro e w2 ⟨rfl, hb2⟩
    have HB := Lib.hid (HW.out.old hb2)
    obtain ⟨b0, b1, b2⟩ := HB.out.cells
    obtain ⟨c0, c1, c2⟩ := HB.out.frozen
    go_wp2_with fail
    have HE := HB.out.set 0 0 0
    have hl := HE.load
    refine bodyPost_ret (v := .tuple #[fv 0 0 0, .int .i64 0, .bool false]) ?_ rfl ⟨by rw [HN.out], HE.1⟩
    rw [results_cell_tmp2 rfl]
    simp [asAddr, Result.andThen, hl, fv]
  · rw [hb] at hc
    have hz := un_size hb
    by_cases h14 : s.size = 14
    · have hx : hexB s = true := by unfold hexB; rw [hb, decide_eq_true h14]; rfl
      have hz56 : (bitsi.unhexT s).size = 56 := by omega
      have hsn : sndB (bitsi.unhexT s) = true := snd_yes (by unfold rdB; rw [un_ok hb, decide_eq_true (by omega)]; rfl) (by omega)
      have hr := fun w => parr.repair4 (bitsi.unhexT s) w hsn
      have d1 : (((bitsi.unhexT s).size : Int) != 56) = false := by rw [hz56]; rfl
      have hrf : rfB s = (repB (bitsi.unhexT s) && dG (repT (bitsi.unhexT s))) := by unfold rfB; rw [hx]; rfl
      cases hrb : repB (bitsi.unhexT s)
      · have HN := Lib.hid (rf_no (s := s) (by rw [hrf, hrb]; rfl))
        rw [hrb] at hr
        have HR := Lib.hid hr
        have HC := Lib.hid hc
        clear hc hb hm hz h14 hx hz56 hsn hr hrf hrb
        generalize bitsi.unhexT s = T at *
        generalize repT T = R at *
        generalize repI T = i at *
        go_enter Try.func135, Try.ntmps135
        go_wp2_with fail
        generalize w.alloc (.cells #[.int .i64 0, .int .i64 0, .int .i64 0] 155) = W at *
        refine (HC.out _).mono ?_
        rintro e w2 ⟨rfl, hb2⟩
        have HB := Lib.hid (HW.out.old hb2)
        go_wp2_with fail
        refine (HR.out _).mono ?_
        rintro e w3 ⟨rfl, hb3⟩
        have HB3 := Lib.hid (HB.out.old hb3)
        obtain ⟨b0, b1, b2⟩ := HB3.out.cells
        obtain ⟨c0, c1, c2⟩ := HB3.out.frozen
        go_wp2_with fail
        have HE := HB3.out.set 0 0 0
        have hl := HE.load
        refine bodyPost_ret (v := .tuple #[fv 0 0 0, .int .i64 0, .bool false]) ?_ rfl ⟨by rw [HN.out], HE.1⟩
        rw [results_cell_tmp2 rfl]
        simp [asAddr, Result.andThen, hl, fv]
      · have hrs := rep_size hsn hrb
        have hd := fun w => decode5 (repT (bitsi.unhexT s)) w (by rw [hrs.1]; exact hz56) hrs.2
        rw [hrb] at hr
        have HR := Lib.hid hr
        have HC := Lib.hid hc
        cases hg : dG (repT (bitsi.unhexT s))
        · have HN := Lib.hid (rf_no (s := s) (by rw [hrf, hrb, hg]; rfl))
          rw [hg] at hd
          have HD := Lib.hid (show ∀ w, Calls Try.prog 166 #[.string (repT (bitsi.unhexT s))] w fun e w' => e = .returned (.tuple #[.agg #[.int .i64 0, .int .i64 0, .int .i64 0], .bool false]) ∧ Below w.heap.size w w' from hd)
          clear hc hb hm hz h14 hx hz56 hsn hr hrf hrb hrs hd hg
          generalize bitsi.unhexT s = T at *
          generalize repT T = R at *
          generalize repI T = i at *
          go_enter Try.func135, Try.ntmps135
          go_wp2_with fail
          generalize w.alloc (.cells #[.int .i64 0, .int .i64 0, .int .i64 0] 155) = W at *
          refine (HC.out _).mono ?_
          rintro e w2 ⟨rfl, hb2⟩
          have HB := Lib.hid (HW.out.old hb2)
          go_wp2_with fail
          refine (HR.out _).mono ?_
          rintro e w3 ⟨rfl, hb3⟩
          have HB3 := Lib.hid (HB.out.old hb3)
          go_wp2_with fail
          refine (HD.out _).mono ?_
          rintro e w4 ⟨rfl, hb4⟩
          have HB4 := Lib.hid ((HB3.out.old hb4).old ((Below.refl _ _).alloc (Nat.le_refl _) (.cells #[.int .i64 0, .int .i64 0, .int .i64 0] 155)))
          obtain ⟨b0, b1, b2⟩ := HB4.out.cells
          obtain ⟨c0, c1, c2⟩ := HB4.out.frozen
          go_wp2_with fail
          have HE := HB4.out.set 0 0 0
          have hl := HE.load
          refine bodyPost_ret (v := .tuple #[fv 0 0 0, .int .i64 0, .bool false]) ?_ rfl ⟨by rw [HN.out], HE.1⟩
          rw [results_cell_tmp2 rfl]
          simp [asAddr, Result.andThen, hl, fv]
        · have HN := Lib.hid (rf_yes (s := s) (by rw [hrf, hrb, hg]; rfl))
          rw [hg] at hd
          have HD := Lib.hid (show ∀ w, Calls Try.prog 166 #[.string (repT (bitsi.unhexT s))] w fun e w' => e = .returned (.tuple #[.agg #[.int .i64 (dK (repT (bitsi.unhexT s))), .int .i64 (dA (repT (bitsi.unhexT s))), .int .i64 (dD (repT (bitsi.unhexT s)))], .bool true]) ∧ Below w.heap.size w w' from hd)
          clear hc hb hm hz h14 hx hz56 hsn hr hrf hrb hrs hd hg
          generalize bitsi.unhexT s = T at *
          generalize dK (repT T) = k at *
          generalize dA (repT T) = a at *
          generalize dD (repT T) = d at *
          generalize repT T = R at *
          generalize repI T = i at *
          go_enter Try.func135, Try.ntmps135
          go_wp2_with fail
          generalize w.alloc (.cells #[.int .i64 0, .int .i64 0, .int .i64 0] 155) = W at *
          refine (HC.out _).mono ?_
          rintro e w2 ⟨rfl, hb2⟩
          have HB := Lib.hid (HW.out.old hb2)
          go_wp2_with fail
          refine (HR.out _).mono ?_
          rintro e w3 ⟨rfl, hb3⟩
          have HB3 := Lib.hid (HB.out.old hb3)
          go_wp2_with fail
          refine (HD.out _).mono ?_
          rintro e w4 ⟨rfl, hb4⟩
          have HB4 := Lib.hid ((HB3.out.old hb4).old ((Below.refl _ _).alloc (Nat.le_refl _) (.cells #[.int .i64 k, .int .i64 a, .int .i64 d] 155)))
          obtain ⟨b0, b1, b2⟩ := HB4.out.cells
          obtain ⟨c0, c1, c2⟩ := HB4.out.frozen
          go_wp2_with fail
          have HE := HB4.out.set k a d
          have hl := HE.load
          refine bodyPost_ret (v := .tuple #[fv k a d, .int .i64 i, .bool true]) ?_ rfl ⟨by rw [HN.out], HE.1⟩
          rw [results_cell_tmp2 rfl]
          simp [asAddr, Result.andThen, hl, fv]
    · have HN := Lib.hid (rf_no (s := s) (by unfold rfB hexB; rw [decide_eq_false h14]; simp))
      have d1 : (((bitsi.unhexT s).size : Int) != 56) = true := by simp; omega
      have HC := Lib.hid hc
      clear hc hb hm hz h14
      generalize bitsi.unhexT s = T at *
      go_enter Try.func135, Try.ntmps135
      go_wp2_with fail
      generalize w.alloc (.cells #[.int .i64 0, .int .i64 0, .int .i64 0] 155) = W at *
      refine (HC.out _).mono ?_
      rintro e w2 ⟨rfl, hb2⟩
      have HB := Lib.hid (HW.out.old hb2)
      obtain ⟨b0, b1, b2⟩ := HB.out.cells
      obtain ⟨c0, c1, c2⟩ := HB.out.frozen
      go_wp2_with fail
      have HE := HB.out.set 0 0 0
      have hl := HE.load
      refine bodyPost_ret (v := .tuple #[fv 0 0 0, .int .i64 0, .bool false]) ?_ rfl ⟨by rw [HN.out], HE.1⟩
      rw [results_cell_tmp2 rfl]
      simp [asAddr, Result.andThen, hl, fv]

end Go.Proofs.Ytdjcbfeilkepmaa.frme
