/- spec's Receive. -/
import Derived.Test.YtdjcbfeilkepmaaRcvR
namespace Go.Proofs.Ytdjcbfeilkepmaa.rcvs
open Go.RowKit Go.Proofs.Ytdjcbfeilkepmaa.pos Go.Proofs.Ytdjcbfeilkepmaa.in_ Go.Proofs.Ytdjcbfeilkepmaa.rcv Go.Proofs.Ytdjcbfeilkepmaa.rcvm Go.Proofs.Ytdjcbfeilkepmaa.ats Go.Proofs.Ytdjcbfeilkepmaa.lst Go.Proofs.Ytdjcbfeilkepmaa.rcvg Go.Proofs.Ytdjcbfeilkepmaa.rcvk Go.Proofs.Ytdjcbfeilkepmaa.rcvp

theorem rc_le6 (m : Int) (hs : List Hd) (s : ByteArray) (t : Int) : (rcL m hs s t).length ≤ 1048576 := by
  cases h : rcB m hs s t
  · rw [(rc_no h).2]; exact Nat.zero_le _
  · exact Nat.le_trans (v_parts (rc_valid h)).2.1 (by omega)

theorem go9 (m : Int) (hs : List Hd) (s : ByteArray) (t : Int) (b o c : Nat) (w : World) (hg : goB m hs t = true) (hf : frm.rfB s = true) (h : RdH w w.heap.size (some ⟨b, o, none⟩) hs) :
    Calls Try.prog 136 #[.agg #[.int .i64 m, .slice (some ⟨b, o, none⟩) hs.length c], .agg #[.int .i64 (frm.rfK s), .int .i64 (frm.rfA s), .int .i64 (frm.rfD s)], .int .i64 t] w
      fun e w' => ∃ v, e = .returned (.tuple #[.agg #[.int .i64 (rcM m hs s t), v], .bool (rcB m hs s t)]) ∧ w'.ownsRow w.heap.size 137 10 v (rcL m hs s t).length (rows (rcL m hs s t)) ∧ Below w.heap.size w w' := by
  have e1 : rcB m hs s t = vB t (rL hs (frm.rfK s) (frm.rfA s) (frm.rfD s) t) := by rw [rc_is, hg, hf]; rfl
  have h9 := rcvr.receive9 m hs (frm.rfK s) (frm.rfA s) (frm.rfD s) t b o c w (go_val hg) h
  unfold rcM rcL
  rw [e1]
  exact h9

set_option maxRecDepth 100000 in
set_option maxHeartbeats 8000000 in
theorem receive (m : Int) (hs : List Hd) (s : ByteArray) (t : Int) (b o c : Nat) (w : World) (hn : hs.length ≤ 1048576) (hsz : s.size ≤ maxLen) (h : RdH w w.heap.size (some ⟨b, o, none⟩) hs) :
    Calls Try.prog 103 #[.agg #[.int .i64 m, .slice (some ⟨b, o, none⟩) hs.length c], .string s, .int .i64 t] w
      fun e w' => ∃ v, e = .returned (.tuple #[.agg #[.int .i64 (rcM m hs s t), v], .bool (rcB m hs s t)]) ∧ w'.ownsRow w.heap.size 137 10 v (rcL m hs s t).length (rows (rcL m hs s t)) ∧ Below w.heap.size w w' := by
  have B0 := Lib.hid ((newS 71 #[.int .i64 m, .slice (some ⟨b, o, none⟩) hs.length c] w).alloc (.cells #[.int .i64 0, .slice none 0 0] 71))
  have R0 := Lib.hid ((newS 71 #[.int .i64 m, .slice (some ⟨b, o, none⟩) hs.length c] w).next 71 #[.int .i64 0, .slice none 0 0])
  rw [World.size_alloc] at R0
  have GV := Lib.hid (fun W (hb : Below w.heap.size w W) => rcva.good9 m hs (some ⟨b, o, none⟩) c W (by omega) (h.next hb))
  have MI := Lib.hid (fun W => rcva.minute9 t W)
  have RF := Lib.hid (fun W => frme.repair5 s W hsz)
  have G9 := Lib.hid (fun (hg : goB m hs t = true) (hf : frm.rfB s = true) W (hb : Below w.heap.size w W) => go9 m hs s t b o c W hg hf (h.next hb))
  have IS := Lib.hid (rc_is m hs s t)
  have NO := Lib.hid (fun h => rc_no (m := m) (hs := hs) (s := s) (t := t) h)
  have GB := Lib.hid (show goB m hs t = (vB m hs && (isIn t 0 9999 && decide (m ≤ t))) from rfl)
  clear h hn hsz
  generalize hs.length = n at *
  unfold frm.fv at RF
  generalize (frm.rfK s : Int) = K at *
  generalize (frm.rfA s : Int) = A at *
  generalize (frm.rfD s : Int) = D at *
  generalize frm.rfI s = I at *
  generalize frm.rfB s = rf at *
  generalize vB m hs = bv at *
  generalize isIn t 0 9999 = bt at *
  go_enter Try.func103, Try.ntmps103
  go_wp2_with fail
  refine (RF.out _).mono ?_
  rintro e V3 ⟨rfl, hb3⟩
  have B4 := Lib.hid ((B0.out.old hb3).alloc (.cells #[.int .i64 K, .int .i64 A, .int .i64 D] 155))
  have R4 := Lib.hid ((R0.out.old hb3).alloc (.cells #[.int .i64 K, .int .i64 A, .int .i64 D] 155))
  have F4 := Lib.hid ((B0.out.old hb3).next 155 #[.int .i64 K, .int .i64 A, .int .i64 D])
  clear B0 R0 hb3 RF
  go_upto_region 2 with fail
  generalize V3.alloc (.cells #[.int .i64 K, .int .i64 A, .int .i64 D] 155) = V4 at *
  generalize V3.heap.size = g at *
  have b0 : V4.cell? ⟨w.heap.size, 0, none⟩ = some (.int .i64 m) := B4.out.cell 0
  have b1 : V4.cell? ⟨w.heap.size, 1, none⟩ = some (.slice (some ⟨b, o, none⟩) n c) := B4.out.cell 1
  go_cut [34] from 17 to 34 (fun s wx => (∃ bb, s = .bool bb ∧ bb = !(bv && (rf && (bt && decide (m ≤ t))))) ∧ AtS 71 #[.int .i64 m, .slice (some ⟨b, o, none⟩) n c] w wx w.heap.size ∧ AtS 71 #[.int .i64 0, .slice none 0 0] w wx (w.heap.size + 1) ∧ AtS 155 #[.int .i64 K, .int .i64 A, .int .i64 D] w wx g)
  case first =>
    clear G9 IS NO GB
    cases bv
    · go_wp2_with fail
      refine (GV.out _ B4.out.1).mono ?_
      rintro e V5 ⟨rfl, hb5⟩
      have PL := Lib.hid (show AtS 71 #[.int .i64 m, .slice (some ⟨b, o, none⟩) n c] w V5 w.heap.size ∧ AtS 71 #[.int .i64 0, .slice none 0 0] w V5 (w.heap.size + 1) ∧ AtS 155 #[.int .i64 K, .int .i64 A, .int .i64 D] w V5 g from ⟨B4.out.old hb5, R4.out.old hb5, F4.out.old hb5⟩)
      have e0 : V5.cell? ⟨w.heap.size, 0, none⟩ = some (.int .i64 m) := PL.out.1.cell 0
      clear b0 b1 GV B4 R4 F4 hb5
      go_wp2_with fail
      go_meet
      exact ⟨⟨_, rfl, rfl⟩, PL.out⟩
    · cases rf
      · go_wp2_with fail
        refine (GV.out _ B4.out.1).mono ?_
        rintro e V5 ⟨rfl, hb5⟩
        have PL := Lib.hid (show AtS 71 #[.int .i64 m, .slice (some ⟨b, o, none⟩) n c] w V5 w.heap.size ∧ AtS 71 #[.int .i64 0, .slice none 0 0] w V5 (w.heap.size + 1) ∧ AtS 155 #[.int .i64 K, .int .i64 A, .int .i64 D] w V5 g from ⟨B4.out.old hb5, R4.out.old hb5, F4.out.old hb5⟩)
        have e0 : V5.cell? ⟨w.heap.size, 0, none⟩ = some (.int .i64 m) := PL.out.1.cell 0
        clear b0 b1 GV B4 R4 F4 hb5
        go_wp2_with fail
        go_meet
        exact ⟨⟨_, rfl, rfl⟩, PL.out⟩
      · cases bt
        · go_wp2_with fail
          refine (GV.out _ B4.out.1).mono ?_
          rintro e V5 ⟨rfl, hb5⟩
          have PL := Lib.hid (show AtS 71 #[.int .i64 m, .slice (some ⟨b, o, none⟩) n c] w V5 w.heap.size ∧ AtS 71 #[.int .i64 0, .slice none 0 0] w V5 (w.heap.size + 1) ∧ AtS 155 #[.int .i64 K, .int .i64 A, .int .i64 D] w V5 g from ⟨B4.out.old hb5, R4.out.old hb5, F4.out.old hb5⟩)
          have e0 : V5.cell? ⟨w.heap.size, 0, none⟩ = some (.int .i64 m) := PL.out.1.cell 0
          clear b0 b1 GV B4 R4 F4 hb5
          go_wp2_with fail
          refine (MI.out _).mono ?_
          rintro e w' ⟨rfl, rfl⟩
          go_wp2_with fail
          go_meet
          exact ⟨⟨_, rfl, rfl⟩, PL.out⟩
        · by_cases htm : t < m
          · have z1 : decide (t < m) = true := decide_eq_true htm
            have z2 : decide (m ≤ t) = false := decide_eq_false (by omega)
            clear htm
            go_wp2_with fail
            refine (GV.out _ B4.out.1).mono ?_
            rintro e V5 ⟨rfl, hb5⟩
            have PL := Lib.hid (show AtS 71 #[.int .i64 m, .slice (some ⟨b, o, none⟩) n c] w V5 w.heap.size ∧ AtS 71 #[.int .i64 0, .slice none 0 0] w V5 (w.heap.size + 1) ∧ AtS 155 #[.int .i64 K, .int .i64 A, .int .i64 D] w V5 g from ⟨B4.out.old hb5, R4.out.old hb5, F4.out.old hb5⟩)
            have e0 : V5.cell? ⟨w.heap.size, 0, none⟩ = some (.int .i64 m) := PL.out.1.cell 0
            clear b0 b1 GV B4 R4 F4 hb5
            go_wp2_with fail
            refine (MI.out _).mono ?_
            rintro e w' ⟨rfl, rfl⟩
            go_wp2_with fail
            go_meet
            exact ⟨⟨_, rfl, by rw [z2]; first | rfl | (rw [z1]; rfl)⟩, PL.out⟩
          · have z1 : decide (t < m) = false := decide_eq_false htm
            have z2 : decide (m ≤ t) = true := decide_eq_true (by omega)
            clear htm
            go_wp2_with fail
            refine (GV.out _ B4.out.1).mono ?_
            rintro e V5 ⟨rfl, hb5⟩
            have PL := Lib.hid (show AtS 71 #[.int .i64 m, .slice (some ⟨b, o, none⟩) n c] w V5 w.heap.size ∧ AtS 71 #[.int .i64 0, .slice none 0 0] w V5 (w.heap.size + 1) ∧ AtS 155 #[.int .i64 K, .int .i64 A, .int .i64 D] w V5 g from ⟨B4.out.old hb5, R4.out.old hb5, F4.out.old hb5⟩)
            have e0 : V5.cell? ⟨w.heap.size, 0, none⟩ = some (.int .i64 m) := PL.out.1.cell 0
            clear b0 b1 GV B4 R4 F4 hb5
            go_wp2_with fail
            refine (MI.out _).mono ?_
            rintro e w' ⟨rfl, rfl⟩
            go_wp2_with fail
            go_meet
            exact ⟨⟨_, rfl, by rw [z2]; first | rfl | (rw [z1]; rfl)⟩, PL.out⟩
  case rest =>
    obtain ⟨⟨bb, rfl, hbb⟩, hB, hR, hF⟩ := hcut
    clear B4 R4 F4 b0 b1 GV MI
    have r0 : wc.cell? ⟨w.heap.size + 1, 0, none⟩ = some (.int .i64 0) := hR.cell 0
    have r1 : wc.cell? ⟨w.heap.size + 1, 1, none⟩ = some (.slice none 0 0) := hR.cell 1
    have rf0 := hR.frozen 0
    have rf1 := hR.frozen 1
    cases bb
    · have hall : (bv && (rf && (bt && decide (m ≤ t)))) = true := by
        have e := hbb.symm
        rwa [Bool.not_eq_false'] at e
      have hrf : rf = true := by revert hall; cases rf <;> simp
      have hgo : goB m hs t = true := by rw [GB.out]; revert hall; cases bv <;> cases rf <;> simp
      have C9 := Lib.hid (G9.out hgo hrf)
      clear hall hbb G9 NO GB IS hgo hrf
      have b0 : wc.cell? ⟨w.heap.size, 0, none⟩ = some (.int .i64 m) := hB.cell 0
      have b1 : wc.cell? ⟨w.heap.size, 1, none⟩ = some (.slice (some ⟨b, o, none⟩) n c) := hB.cell 1
      have k0 : wc.cell? ⟨g, 0, none⟩ = some (.int .i64 K) := hF.cell 0
      have k1 : wc.cell? ⟨g, 1, none⟩ = some (.int .i64 A) := hF.cell 1
      have k2 : wc.cell? ⟨g, 2, none⟩ = some (.int .i64 D) := hF.cell 2
      have LR := Lib.hid (show w.heap.size + 1 < wc.heap.size from hR.2.2.1)
      clear r0 r1 rf0 rf1
      go_wp2_with fail
      refine (C9.out _ hB.1).mono ?_
      rintro e V5 ⟨v5, rfl, o5, hb5⟩
      obtain ⟨A5, c5, rfl⟩ := own_sliceZ o5
      have R5 := Lib.hid (hR.old hb5)
      have O5 := Lib.hid o5
      clear hR hB hF o5 hb5 b0 b1 k0 k1 k2 C9
      have r0 : V5.cell? ⟨w.heap.size + 1, 0, none⟩ = some (.int .i64 0) := R5.out.cell 0
      have r1 : V5.cell? ⟨w.heap.size + 1, 1, none⟩ = some (.slice none 0 0) := R5.out.cell 1
      have rf0 := R5.out.frozen 0
      have rf1 := R5.out.frozen 1
      have HE := Lib.hid ((R5.out.set 0 (.int .i64 (rcM m hs s t))).set 1 (.slice A5 (rcL m hs s t).length c5))
      have O9 := Lib.hid (own_setbox (own_setbox O5.out LR.out 0 (.int .i64 (rcM m hs s t))) LR.out 1 (.slice A5 (rcL m hs s t).length c5))
      clear R5 O5
      go_wp2_with fail
      have hl := HE.out.load Try.underlying71 rfl (by kernel_rfl)
      refine bodyPost_ret (v := .tuple #[.agg #[.int .i64 (rcM m hs s t), .slice A5 (rcL m hs s t).length c5], .bool (rcB m hs s t)]) ?_ rfl ⟨_, rfl, own_.own_base O9.out (by have := LR.out; omega), HE.out.1⟩
      rw [results_ct rfl]
      simp [asAddr, Result.andThen, hl]
    · have HB := Lib.hid (show rcB m hs s t = false by
        rw [IS.out, GB.out]
        have e := hbb.symm
        rw [Bool.not_eq_true'] at e
        revert e
        generalize decide (m ≤ t) = d
        generalize vB t (rL hs K A D t) = x
        intro e
        cases bv <;> cases rf <;> cases bt <;> cases d <;> first | rfl | cases e)
      have HP := Lib.hid (NO.out HB.out)
      have HE := Lib.hid ((hR.set 0 (.int .i64 0)).set 1 (.slice none 0 0))
      clear hR hB hF IS NO GB G9 hbb
      go_wp2_with fail
      have hl := HE.out.load Try.underlying71 rfl (by kernel_rfl)
      refine bodyPost_ret (v := .tuple #[.agg #[.int .i64 0, .slice none 0 0], .bool false]) ?_ rfl ⟨_, by rw [HP.out.1, HB.out], by rw [HP.out.2]; exact own_nil _ _ _ _, HE.out.1⟩
      rw [results_ct rfl]
      simp [asAddr, Result.andThen, hl]
end Go.Proofs.Ytdjcbfeilkepmaa.rcvs
