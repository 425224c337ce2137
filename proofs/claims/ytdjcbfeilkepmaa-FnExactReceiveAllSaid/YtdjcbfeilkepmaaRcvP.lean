/- impl's Receive. -/
import Derived.Test.YtdjcbfeilkepmaaRcvK
import Derived.Test.YtdjcbfeilkepmaaRcvB
namespace Go.Proofs.Ytdjcbfeilkepmaa.rcvp
open Go.RowKit Go.Proofs.Ytdjcbfeilkepmaa.in_ Go.Proofs.Ytdjcbfeilkepmaa.rcv Go.Proofs.Ytdjcbfeilkepmaa.rcvm Go.Proofs.Ytdjcbfeilkepmaa.ats Go.Proofs.Ytdjcbfeilkepmaa.lst Go.Proofs.Ytdjcbfeilkepmaa.rcvg Go.Proofs.Ytdjcbfeilkepmaa.rcvk

theorem rc_no {m : Int} {hs : List Hd} {s : ByteArray} {t : Int} (h : rcB m hs s t = false) : rcM m hs s t = 0 ∧ rcL m hs s t = [] := by unfold rcM rcL; rw [h]; exact ⟨rfl, rfl⟩
theorem rc_yes {m : Int} {hs : List Hd} {s : ByteArray} {t : Int} (h : rcB m hs s t = true) : rcM m hs s t = t ∧ rcL m hs s t = rL hs (frm.rfK s) (frm.rfA s) (frm.rfD s) t := by unfold rcM rcL; rw [h]; exact ⟨rfl, rfl⟩
theorem rc_is (m : Int) (hs : List Hd) (s : ByteArray) (t : Int) : rcB m hs s t = (goB m hs t && (frm.rfB s && vB t (rL hs (frm.rfK s) (frm.rfA s) (frm.rfD s) t))) := rfl
theorem rc_le (m : Int) (hs : List Hd) (s : ByteArray) (t : Int) : (rcL m hs s t).length ≤ hs.length + 1 := by
  unfold rcL
  split
  · exact rL_length _ _ _ _ _
  · exact Nat.zero_le _
theorem go_val {m : Int} {hs : List Hd} {t : Int} (h : goB m hs t = true) : vB m hs = true := by
  unfold goB at h
  rw [Bool.and_eq_true] at h
  exact h.1
theorem own_setbox {W : World} {B e s n b : Nat} {v : Value} {xs : List Value} (h : W.ownsRow B e s v n xs) (hlt : b < B) (i : Nat) (u : Value) : (W.setCell ⟨b, i, none⟩ u).ownsRow B e s v n xs :=
  own_kept_at h (grown_set (grown_refl _ (some b)) i u) (fun g e e2 => by injection e2 with e2; have := own_.row_ge h g e; omega)

set_option maxRecDepth 100000 in
set_option maxHeartbeats 8000000 in
theorem receive (m : Int) (hs : List Hd) (s : ByteArray) (t : Int) (b o c : Nat) (w : World) (hn : hs.length ≤ 1048576) (hc : hs.length ≤ c) (h : RdH w w.heap.size (some ⟨b, o, none⟩) hs) :
    Calls Try.prog 107 #[.agg #[.int .i64 m, .slice (some ⟨b, o, none⟩) hs.length c], .string s, .int .i64 t] w
      fun e w' => ∃ v, e = .returned (.tuple #[.agg #[.int .i64 (rcM m hs s t), v], .bool (rcB m hs s t)]) ∧ w'.ownsRow w.heap.size 137 10 v (rcL m hs s t).length (rows (rcL m hs s t)) ∧ Below w.heap.size w w' := by
  have B0 := Lib.hid ((newS 71 #[.int .i64 m, .slice (some ⟨b, o, none⟩) hs.length c] w).alloc (.cells #[.int .i64 0, .slice none 0 0] 71))
  have R0 := Lib.hid ((newS 71 #[.int .i64 m, .slice (some ⟨b, o, none⟩) hs.length c] w).next 71 #[.int .i64 0, .slice none 0 0])
  rw [World.size_alloc] at R0
  have CG := Lib.hid (fun W (hb : Below w.heap.size w W) => rcvb.canGoOn m hs t (some ⟨b, o, none⟩) c W (by omega) (h.next hb))
  have RF := Lib.hid (show ∀ W, Calls Try.prog 140 #[.string s] W fun e w' => e = .returned (.tuple #[.agg #[.int .i64 (frm.rfK s : Int), .int .i64 (frm.rfA s : Int), .int .i64 (frm.rfD s : Int)], .int .i64 (frm.rfI s), .bool (frm.rfB s)]) ∧ Below W.heap.size W w' from fun W => frmk.repairFrame s W)
  have LW := Lib.hid (fun (hv : goB m hs t = true) W (hb : Below w.heap.size w W) => listWithFrame m hs (frm.rfK s) (frm.rfA s) (frm.rfD s) t b o c W (go_val hv) hc (h.next hb))
  have IV := Lib.hid (fun (W : World) (A' : Option Addr) (c' : Nat) (h' : RdH W W.heap.size A' (rL hs (frm.rfK s) (frm.rfA s) (frm.rfD s) t)) => rcvb.isValidReceiver t (rL hs (frm.rfK s) (frm.rfA s) (frm.rfD s) t) A' c' W (Nat.le_trans (rL_length _ _ _ _ _) (by omega)) h')
  have IS := Lib.hid (rc_is m hs s t)
  have NO := Lib.hid (fun h => rc_no (m := m) (hs := hs) (s := s) (t := t) h)
  have YE := Lib.hid (fun h => rc_yes (m := m) (hs := hs) (s := s) (t := t) h)
  clear h hn hc
  generalize hs.length = n at *
  generalize (frm.rfK s : Int) = K at *
  generalize (frm.rfA s : Int) = A at *
  generalize (frm.rfD s : Int) = D at *
  generalize frm.rfI s = I at *
  generalize frm.rfB s = rf at *
  generalize rL hs K A D t = L at *
  go_enter Try.func107, Try.ntmps107
  go_wp2_with fail
  refine (CG.out _ B0.out.1).mono ?_
  rintro e V2 ⟨rfl, hb2⟩
  have B2 := Lib.hid (B0.out.old hb2)
  have R2 := Lib.hid (R0.out.old hb2)
  clear B0 R0 hb2 CG
  cases hg : goB m hs t
  · have HB := Lib.hid (show rcB m hs s t = false by rw [IS.out, hg]; rfl)
    have HP := Lib.hid (NO.out HB.out)
    have r0 : V2.cell? ⟨w.heap.size + 1, 0, none⟩ = some (.int .i64 0) := R2.out.cell 0
    have r1 : V2.cell? ⟨w.heap.size + 1, 1, none⟩ = some (.slice none 0 0) := R2.out.cell 1
    have rf0 := R2.out.frozen 0
    have rf1 := R2.out.frozen 1
    have HE := Lib.hid ((R2.out.set 0 (.int .i64 0)).set 1 (.slice none 0 0))
    clear R2 B2 RF LW IV IS NO YE hg
    go_wp2_with fail
    have hl := HE.out.load Try.underlying71 rfl (by kernel_rfl)
    refine bodyPost_ret (v := .tuple #[.agg #[.int .i64 0, .slice none 0 0], .bool false]) ?_ rfl ⟨_, by rw [HP.out.1, HB.out], by rw [HP.out.2]; exact own_nil _ _ _ _, HE.out.1⟩
    rw [results_ct rfl]
    simp [asAddr, Result.andThen, hl]
  · have L1 := Lib.hid (LW.out hg)
    go_wp2_with fail
    refine (RF.out _).mono ?_
    rintro e V3 ⟨rfl, hb3⟩
    have B3 := Lib.hid ((B2.out.old hb3).alloc (.cells #[.int .i64 K, .int .i64 A, .int .i64 D] 155))
    have R3 := Lib.hid ((R2.out.old hb3).alloc (.cells #[.int .i64 K, .int .i64 A, .int .i64 D] 155))
    have F3 := Lib.hid ((B2.out.old hb3).next 155 #[.int .i64 K, .int .i64 A, .int .i64 D])
    clear B2 R2 hb3 RF LW
    cases rf
    · have HB := Lib.hid (show rcB m hs s t = false by rw [IS.out]; simp)
      have HP := Lib.hid (NO.out HB.out)
      go_upto_region 5 with fail
      generalize V3.alloc (.cells #[.int .i64 K, .int .i64 A, .int .i64 D] 155) = V4 at *
      have r0 : V4.cell? ⟨w.heap.size + 1, 0, none⟩ = some (.int .i64 0) := R3.out.cell 0
      have r1 : V4.cell? ⟨w.heap.size + 1, 1, none⟩ = some (.slice none 0 0) := R3.out.cell 1
      have rf0 := R3.out.frozen 0
      have rf1 := R3.out.frozen 1
      have HE := Lib.hid ((R3.out.set 0 (.int .i64 0)).set 1 (.slice none 0 0))
      clear R3 B3 F3 IV IS NO YE hg L1
      go_wp2_with fail
      have hl := HE.out.load Try.underlying71 rfl (by kernel_rfl)
      refine bodyPost_ret (v := .tuple #[.agg #[.int .i64 0, .slice none 0 0], .bool false]) ?_ rfl ⟨_, by rw [HP.out.1, HB.out], by rw [HP.out.2]; exact own_nil _ _ _ _, HE.out.1⟩
      rw [results_ct rfl]
      simp [asAddr, Result.andThen, hl]
    · go_upto_region 6 with fail
      generalize V3.alloc (.cells #[.int .i64 K, .int .i64 A, .int .i64 D] 155) = V4 at *
      generalize V3.heap.size = g at *
      have a1 : V4.cell? ⟨w.heap.size, 1, none⟩ = some (.slice (some ⟨b, o, none⟩) n c) := B3.out.cell 1
      have k0 : V4.cell? ⟨g, 0, none⟩ = some (.int .i64 K) := F3.out.cell 0
      have k1 : V4.cell? ⟨g, 1, none⟩ = some (.int .i64 A) := F3.out.cell 1
      have k2 : V4.cell? ⟨g, 2, none⟩ = some (.int .i64 D) := F3.out.cell 2
      go_wp2_with fail
      refine (L1.out _ B3.out.1).mono ?_
      rintro e V5 ⟨v5, rfl, o5, hb5⟩
      obtain ⟨A5, c5, rfl⟩ := own_sliceZ o5
      have LR := Lib.hid (show w.heap.size + 1 < V4.heap.size from R3.out.2.2.1)
      have R5 := Lib.hid ((R3.out.old hb5).alloc (.cells #[.int .i64 t, .slice A5 L.length c5] 71))
      have Q5 := Lib.hid ((R3.out.old hb5).next 71 #[.int .i64 t, .slice A5 L.length c5])
      have O5 := Lib.hid (own_.own_below o5 ((Below.refl _ _).alloc (Nat.le_refl _) (.cells #[.int .i64 t, .slice A5 L.length c5] 71)))
      clear R3 B3 F3 hb5 o5 a1 k0 k1 k2 L1
      go_upto_region 7 with fail
      generalize V5.alloc (.cells #[.int .i64 t, .slice A5 L.length c5] 71) = V6 at *
      generalize V5.heap.size = q at *
      have q0 : V6.cell? ⟨q, 0, none⟩ = some (.int .i64 t) := Q5.out.cell 0
      have q1 : V6.cell? ⟨q, 1, none⟩ = some (.slice A5 L.length c5) := Q5.out.cell 1
      go_wp2_with fail
      refine (IV.out _ _ _ (RdH.of_own O5.out rfl)).mono ?_
      rintro e V7 ⟨rfl, hb7⟩
      have R7 := Lib.hid (R5.out.old hb7)
      have Q7 := Lib.hid (Q5.out.old hb7)
      have O7 := Lib.hid (own_.own_below O5.out hb7)
      clear R5 Q5 O5 hb7 q0 q1 IV
      have r0 : V7.cell? ⟨w.heap.size + 1, 0, none⟩ = some (.int .i64 0) := R7.out.cell 0
      have r1 : V7.cell? ⟨w.heap.size + 1, 1, none⟩ = some (.slice none 0 0) := R7.out.cell 1
      have rf0 := R7.out.frozen 0
      have rf1 := R7.out.frozen 1
      cases hv : vB t L
      · have HB := Lib.hid (show rcB m hs s t = false by rw [IS.out, hv]; simp)
        have HP := Lib.hid (NO.out HB.out)
        have HE := Lib.hid ((R7.out.set 0 (.int .i64 0)).set 1 (.slice none 0 0))
        clear R7 Q7 O7 IS NO YE hg hv
        go_wp2_with fail
        have hl := HE.out.load Try.underlying71 rfl (by kernel_rfl)
        refine bodyPost_ret (v := .tuple #[.agg #[.int .i64 0, .slice none 0 0], .bool false]) ?_ rfl ⟨_, by rw [HP.out.1, HB.out], by rw [HP.out.2]; exact own_nil _ _ _ _, HE.out.1⟩
        rw [results_ct rfl]
        simp [asAddr, Result.andThen, hl]
      · have HB := Lib.hid (show rcB m hs s t = true by rw [IS.out, hv, hg]; rfl)
        have HP := Lib.hid (YE.out HB.out)
        have q0 : V7.cell? ⟨q, 0, none⟩ = some (.int .i64 t) := Q7.out.cell 0
        have q1 : V7.cell? ⟨q, 1, none⟩ = some (.slice A5 L.length c5) := Q7.out.cell 1
        have HE := Lib.hid ((R7.out.set 0 (.int .i64 t)).set 1 (.slice A5 L.length c5))
        have O9 := Lib.hid (own_setbox (own_setbox O7.out LR.out 0 (.int .i64 t)) LR.out 1 (.slice A5 L.length c5))
        clear R7 Q7 O7 IS NO YE hg hv
        go_wp2_with fail
        have hl := HE.out.load Try.underlying71 rfl (by kernel_rfl)
        refine bodyPost_ret (v := .tuple #[.agg #[.int .i64 t, .slice A5 L.length c5], .bool true]) ?_ rfl ⟨_, by rw [HP.out.1, HB.out], by rw [HP.out.2]; exact own_.own_base O9.out (Nat.le_of_lt (Nat.lt_of_le_of_lt (Nat.le_succ _) LR.out)), HE.out.1⟩
        rw [results_ct rfl]
        simp [asAddr, Result.andThen, hl]
end Go.Proofs.Ytdjcbfeilkepmaa.rcvp
