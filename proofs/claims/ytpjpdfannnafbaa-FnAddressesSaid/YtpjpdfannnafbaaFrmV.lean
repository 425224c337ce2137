/- spec's FrameDistance. -/
import Derived.Test.YtpjpdfannnafbaaFrmS
import Derived.Test.YtpjpdfannnafbaaAtS
import Derived.Test.YtpjpdfannnafbaaHexS
import Derived.Lib.QuietBelow
namespace Go.Proofs.Ytpjpdfannnafbaa.frmv
open Go.RowKit Go.Proofs.Ytpjpdfannnafbaa.bin Go.Proofs.Ytpjpdfannnafbaa.good_ Go.Proofs.Ytpjpdfannnafbaa.frm Go.Proofs.Ytpjpdfannnafbaa.frms Go.Proofs.Ytpjpdfannnafbaa.ats

/-- In how many bits two frames differ. -/
def dist (n m : Nat) : Nat := ones (List.zipWith df (bitsT n).data.toList (bitsT m).data.toList)
def fdB (K A D K' A' D' : Int) : Bool := good K A D && good K' A' D'
def fdV (K A D K' A' D' : Int) : Nat := if fdB K A D K' A' D' then dist (numI K A D) (numI K' A' D') else 0
theorem fd_no {K A D K' A' D' : Int} (h : fdB K A D K' A' D' = false) : Ending.returned (.tuple #[.int .i64 0, .bool false]) = .returned (.tuple #[.int .i64 (fdV K A D K' A' D' : Nat), .bool (fdB K A D K' A' D')]) := by unfold fdV; rw [h]; rfl
theorem fd_yes {k a d k' a' d' : Nat} (h : fdB k a d k' a' d' = true) : Ending.returned (.tuple #[.int .i64 (dist (num k a d) (num k' a' d') : Nat), .bool true]) = .returned (.tuple #[.int .i64 (fdV k a d k' a' d' : Nat), .bool (fdB k a d k' a' d')]) := by unfold fdV numI; rw [h]; simp

theorem diff {a b : ByteArray} (hs : a.size = b.size) (h64 : a.size ≤ 64) : ∃ Z : ByteArray, ones (List.zipWith df a.data.toList b.data.toList) = ones Z.data.toList ∧ Z.size ≤ 64 ∧
    ∀ w, Calls Try.prog 45 #[.string a, .string b] w fun e w' => e = .returned (.string Z) ∧ Below w.heap.size w w' := by
  refine ⟨_, rfl, ?_, fun w => hexs.l2Xor a b w hs h64⟩
  show (List.zipWith df a.data.toList b.data.toList).toArray.size ≤ 64
  rw [List.size_toArray, List.length_zipWith, bitsi.len_list]
  omega
set_option maxHeartbeats 2000000 in
theorem distance (K A D K' A' D' : Int) (w : World) :
    Calls Try.prog 14 #[.agg #[.int .i64 K, .int .i64 A, .int .i64 D], .agg #[.int .i64 K', .int .i64 A', .int .i64 D']] w
      fun e w' => e = .returned (.tuple #[.int .i64 (fdV K A D K' A' D' : Nat), .bool (fdB K A D K' A' D')]) ∧ Below w.heap.size w w' := by
  have hg := fun w => good5 K A D w
  have hg' := fun w => good5 K' A' D' w
  have B0 := Lib.hid (newS 25 #[.int .i64 K, .int .i64 A, .int .i64 D] w)
  cases hb : good K A D
  · have HN := Lib.hid (fd_no (K := K) (A := A) (D := D) (K' := K') (A' := A') (D' := D') (by unfold fdB; rw [hb]; rfl))
    rw [hb] at hg
    have HG := Lib.hid hg
    clear hg hg' hb
    go_enter Try.func14, Try.ntmps14
    go_wp2_with fail
    refine (HG.out _).mono ?_
    rintro e w1 ⟨rfl, hb1⟩
    have B1 := Lib.hid ((B0.out.alloc (.cells #[.int .i64 K', .int .i64 A', .int .i64 D'] 25)).old hb1)
    go_wp2_with fail
    go_ret2
    exact ⟨HN.out, B1.out.1⟩
  · have C0 := Lib.hid (B0.out.next 25 #[.int .i64 K', .int .i64 A', .int .i64 D'])
    have B1 := Lib.hid (B0.out.alloc (.cells #[.int .i64 K', .int .i64 A', .int .i64 D'] 25))
    rw [World.size_alloc] at C0
    cases hb' : good K' A' D'
    · have HN := Lib.hid (fd_no (K := K) (A := A) (D := D) (K' := K') (A' := A') (D' := D') (by unfold fdB; rw [hb, hb']; rfl))
      rw [hb] at hg
      rw [hb'] at hg'
      have HG := Lib.hid hg
      have HG' := Lib.hid hg'
      clear hg hg' hb hb'
      go_enter Try.func14, Try.ntmps14
      go_wp2_with fail
      generalize (w.alloc (.cells #[.int .i64 K, .int .i64 A, .int .i64 D] 25)).alloc (.cells #[.int .i64 K', .int .i64 A', .int .i64 D'] 25) = W at *
      refine (HG.out _).mono ?_
      rintro e w1 ⟨rfl, hb1⟩
      have C1 := Lib.hid (C0.out.old hb1)
      have c0 : w1.cell? ⟨w.heap.size + 1, 0, none⟩ = some (.int .i64 K') := C1.out.cell 0
      have c1 : w1.cell? ⟨w.heap.size + 1, 1, none⟩ = some (.int .i64 A') := C1.out.cell 1
      have c2 : w1.cell? ⟨w.heap.size + 1, 2, none⟩ = some (.int .i64 D') := C1.out.cell 2
      clear hb1
      go_wp2_with fail
      refine (HG'.out _).mono ?_
      rintro e w2 ⟨rfl, hb2⟩
      have C2 := Lib.hid (C1.out.old hb2)
      clear hb2 c0 c1 c2
      go_wp2_with fail
      go_ret2
      exact ⟨HN.out, C2.out.1⟩
    · obtain ⟨k, a, d, rfl, rfl, rfl, h1, h2, h3, h4, h5⟩ := good_nat hb
      obtain ⟨k', a', d', rfl, rfl, rfl, i1, i2, i3, i4, i5⟩ := good_nat hb'
      have HY := Lib.hid (fd_yes (k := k) (a := a) (d := d) (k' := k') (a' := a') (d' := d') (by unfold fdB; rw [hb, hb']; rfl))
      have X1 := Lib.hid (fun w d0 os => Calls.regrown_of (l5Bits k a d (Sort.grow (redrawn w d0) os) h2 h4 h5))
      have X2 := Lib.hid (fun w d0 os => Calls.regrown_of (l5Bits k' a' d' (Sort.grow (redrawn w d0) os) i2 i4 i5))
      obtain ⟨Z, hdz, hzz, hxx⟩ := diff (a := bitsT (num k a d)) (b := bitsT (num k' a' d')) ((bits_size _).trans (bits_size _).symm) (Nat.le_trans (Nat.le_of_eq (bits_size _)) (by omega))
      have hdd : dist (num k a d) (num k' a' d') = ones Z.data.toList := hdz
      rw [hdd] at HY
      have X3 := Lib.hid (fun w d0 os => Calls.regrown_of (hxx (Sort.grow (redrawn w d0) os)))
      have X4 := Lib.hid (fun w d0 os => Calls.regrown_of ((onesN Z (Sort.grow (redrawn w d0) os) hzz).mono fun _ _ h => And.intro h.1 (h.2 ▸ Below.refl _ _)))
      rw [hb] at hg
      rw [hb'] at hg'
      have HG := Lib.hid hg
      have HG' := Lib.hid hg'
      clear hg hg' hb hb' h1 h2 h3 h4 h5 i1 i2 i3 i4 i5 hzz hdz hdd hxx
      generalize bitsT (num k a d) = T1 at *
      generalize bitsT (num k' a' d') = T2 at *
      generalize ones Z.data.toList = o at *
      go_enter Try.func14, Try.ntmps14
      go_wp2_with fail
      generalize (w.alloc (.cells #[.int .i64 k, .int .i64 a, .int .i64 d] 25)).alloc (.cells #[.int .i64 k', .int .i64 a', .int .i64 d'] 25) = W at *
      refine (HG.out _).mono ?_
      rintro e w1 ⟨rfl, hb1⟩
      have C1 := Lib.hid (C0.out.old hb1)
      have D1 := Lib.hid (B1.out.old hb1)
      have c0 : w1.cell? ⟨w.heap.size + 1, 0, none⟩ = some (.int .i64 k') := C1.out.cell 0
      have c1 : w1.cell? ⟨w.heap.size + 1, 1, none⟩ = some (.int .i64 a') := C1.out.cell 1
      have c2 : w1.cell? ⟨w.heap.size + 1, 2, none⟩ = some (.int .i64 d') := C1.out.cell 2
      clear hb1
      go_wp2_with fail
      refine (HG'.out _).mono ?_
      rintro e w2 ⟨rfl, hb2⟩
      have C2 := Lib.hid (C1.out.old hb2)
      have D2 := Lib.hid (D1.out.old hb2)
      clear hb2 c0 c1 c2
      go_wp2_with fail
      have q0 : ∀ d0 os, (Sort.grow (redrawn w2 d0) os).cell? ⟨w.heap.size, 0, none⟩ = some (.int .i64 k) := fun d0 os => cell_regrown (D2.out.cell 0) d0 os
      have q1 : ∀ d0 os, (Sort.grow (redrawn w2 d0) os).cell? ⟨w.heap.size, 1, none⟩ = some (.int .i64 a) := fun d0 os => cell_regrown (D2.out.cell 1) d0 os
      have q2 : ∀ d0 os, (Sort.grow (redrawn w2 d0) os).cell? ⟨w.heap.size, 2, none⟩ = some (.int .i64 d) := fun d0 os => cell_regrown (D2.out.cell 2) d0 os
      have q3 : ∀ d0 os, (Sort.grow (redrawn w2 d0) os).cell? ⟨w.heap.size + 1, 0, none⟩ = some (.int .i64 k') := fun d0 os => cell_regrown (C2.out.cell 0) d0 os
      have q4 : ∀ d0 os, (Sort.grow (redrawn w2 d0) os).cell? ⟨w.heap.size + 1, 1, none⟩ = some (.int .i64 a') := fun d0 os => cell_regrown (C2.out.cell 1) d0 os
      have q5 : ∀ d0 os, (Sort.grow (redrawn w2 d0) os).cell? ⟨w.heap.size + 1, 2, none⟩ = some (.int .i64 d') := fun d0 os => cell_regrown (C2.out.cell 2) d0 os
      refine wp_region_quiet_below (by kernel_rfl) (by kernel_rfl) ?_
      repeat (quiet_step (first
        | (go_at_call 46; first | (with_reducible exact X1.out _ _ _) | (with_reducible exact X2.out _ _ _))
        | (go_at_call 45; with_reducible exact X3.out _ _ _)
        | (go_at_call 44; with_reducible exact X4.out _ _ _)))
      refine wpQuiet_nil ?_
      intro _ hw'
      obtain ⟨⟨dq, osq⟩, hw''⟩ := hw'
      subst hw''
      have hbq := Lib.hid (C2.out.1.trans ((below_regrown w2 dq osq).mono C2.out.1.size))
      clear q0 q1 q2 q3 q4 q5
      generalize Sort.grow (redrawn w2 dq) osq = w3 at *
      go_wp2_with fail
      go_ret2
      exact ⟨HY.out, hbq.out⟩
end Go.Proofs.Ytpjpdfannnafbaa.frmv
