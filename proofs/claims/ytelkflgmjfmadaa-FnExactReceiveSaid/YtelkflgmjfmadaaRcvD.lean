/- The laws' own marks in a list of what is heard, and their check: markHeardS, heldHeardS, markReceiver, heldReceiver. -/
import Derived.Test.YtelkflgmjfmadaaRcvM
import Derived.BigQuiet
import Derived.Deep.QuietTactic
import Derived.Lib.QuietBelow
namespace Go.Proofs.Ytelkflgmjfmadaa.rcvd
open Go.RowKit Go.Proofs.Ytelkflgmjfmadaa.rcv Go.Proofs.Ytelkflgmjfmadaa.rcvm Go.Proofs.Ytelkflgmjfmadaa.ats Go.Proofs.Ytelkflgmjfmadaa.lst

theorem grown_trans9 {a b c : World} {row : Option Nat} (h : a.grownBy b row) (k : b.grownBy c row) : a.grownBy c row :=
  ⟨k.os.trans h.os, k.tape.trans h.tape, k.output.trans h.output, Nat.le_trans h.size k.size, fun b hb hne => (k.block b (Nat.lt_of_lt_of_le hb h.size) hne).trans (h.block b hb hne)⟩
/-- Is it a multiple of three? -/
def tri (q : Int) : Bool := q % 3 == 0
/-- Ten marks from a number on. -/
def mk (q : Int) : Hd := ⟨q, tri (q + 1), q + 1 + 1, q + 1 + 1 + 1, q + 1 + 1 + 1 + 1, tri (q + 1 + 1 + 1 + 1 + 1), q + 1 + 1 + 1 + 1 + 1 + 1, q + 1 + 1 + 1 + 1 + 1 + 1 + 1, q + 1 + 1 + 1 + 1 + 1 + 1 + 1 + 1, q + 1 + 1 + 1 + 1 + 1 + 1 + 1 + 1 + 1⟩
def marksH (k n : Nat) : List Hd := (List.range n).map fun j => mk ((k + j * 10 : Nat) : Int)
theorem marksH_length (k n : Nat) : (marksH k n).length = n := by simp [marksH]
theorem marksH_at {k n j : Nat} (h : j < n) : hx (marksH k n) j = mk ((k + j * 10 : Nat) : Int) := hx_of (by simp [marksH, h])
/-- A list with its first j elements marked. -/
def halfH (k j : Nat) (hs : List Hd) : List Hd := marksH k j ++ hs.drop j
theorem halfH_zero (k : Nat) (hs : List Hd) : halfH k 0 hs = hs := by simp [halfH, marksH]
theorem halfH_all {k : Nat} {hs : List Hd} : halfH k hs.length hs = marksH k hs.length := by unfold halfH; rw [List.drop_length, List.append_nil]
theorem halfH_length {k j : Nat} {hs : List Hd} (h : j ≤ hs.length) : (halfH k j hs).length = hs.length := by
  unfold halfH; rw [List.length_append, marksH_length, List.length_drop]; omega
theorem halfH_set {k j : Nat} {hs : List Hd} (h : j < hs.length) : (halfH k j hs).set j (mk ((k + j * 10 : Nat) : Int)) = halfH k (j + 1) hs := by
  unfold halfH
  rw [List.set_append, if_neg (by rw [marksH_length]; omega), marksH_length, Nat.sub_self, List.drop_eq_getElem_cons h, List.set_cons_zero]
  simp [marksH, List.range_succ]

set_option maxRecDepth 100000 in
set_option maxHeartbeats 4000000 in
theorem markS (B : Nat) (A : Option Addr) (k c : Nat) (hs : List Hd) (w : World) (hk : k + hs.length * 10 ≤ 41943040) (h : w.ownsRow B 54 10 (.slice A hs.length c) hs.length (rows hs)) :
    Calls Try.prog 87 #[.slice A hs.length c, .int .i64 (k : Int)] w fun e w' => e = .returned (.int .i64 ((k + hs.length * 10 : Nat) : Int)) ∧ Below B w w' ∧ w.grownBy w' (Value.slice A hs.length c).ownBlock ∧ w'.ownsRow B 54 10 (.slice A hs.length c) hs.length (rows (marksH k hs.length)) := by
  have S := Lib.hid (fun j (hj : j < hs.length) => halfH_set (k := k) hj)
  have L := Lib.hid (fun j (hj : j ≤ hs.length) => halfH_length (k := k) hj)
  have AL := Lib.hid (halfH_all (k := k) (hs := hs))
  have h0 : w.ownsRow B 54 10 (.slice A hs.length c) hs.length (rows (halfH k 0 hs)) := by rw [halfH_zero]; exact h
  clear h
  generalize hN : hs.length = n at *
  clear hN
  go_enter Try.func87, Try.ntmps87
  go_wp2_with fail
  go_loopw [1, 5] (fun q i wr => ∃ j : Nat, j ≤ n ∧ i = .int .i64 j ∧ q = .int .i64 ((k + j * 10 : Nat) : Int) ∧ Below B w wr ∧ wr.ownsRow B 54 10 (.slice A n c) n (rows (halfH k j hs)) ∧ w.grownBy wr (Value.slice A n c).ownBlock) (fun _ i _ => n - (intOf i).toNat)
  case atStart => exact ⟨0, Nat.zero_le _, rfl, rfl, Below.refl _ _, h0, grown_refl _ _⟩
  case round =>
    obtain ⟨j, hj, rfl, rfl, hb, hown, hgr⟩ := hrel
    clear h0
    by_cases hlt : j < n
    · have hform : ∃ g, A = some ⟨g, 0, none⟩ ∧ B ≤ g := by
        rcases hown.2 with ⟨_, h0⟩ | ⟨g, _, _, hv, hg, _⟩
        · omega
        · injection hv with hA; exact ⟨g, hA, hg⟩
      obtain ⟨g, rfl, hBg⟩ := hform
      have hlt2 : (j : Int) < (n : Int) := by omega
      have e3 : ((k + (j + 1) * 10 : Nat) : Int) = ((k + j * 10 : Nat) : Int) + 1 + 1 + 1 + 1 + 1 + 1 + 1 + 1 + 1 + 1 := by omega
      have E3 := Lib.hid e3
      have b1 : ((k + j * 10 : Nat) : Int) ≤ 41943040 := by omega
      have b0 : (0 : Int) ≤ ((k + j * 10 : Nat) : Int) := by omega
      obtain ⟨s0, s1, s2, s3, s4, s5, s6, s7, s8, s9⟩ := own_cells hown (k := j) (by rw [L.out j hj]; exact hlt)
      have r0 := hown.frozenAt (j * 10)
      have r1 := hown.frozenAt (j * 10 + 1)
      have r2 := hown.frozenAt (j * 10 + 2)
      have r3 := hown.frozenAt (j * 10 + 3)
      have r4 := hown.frozenAt (j * 10 + 4)
      have r5 := hown.frozenAt (j * 10 + 5)
      have r6 := hown.frozenAt (j * 10 + 6)
      have r7 := hown.frozenAt (j * 10 + 7)
      have r8 := hown.frozenAt (j * 10 + 8)
      have r9 := hown.frozenAt (j * 10 + 9)
      have HO := own_put hown (k := j) (by rw [L.out j hj]; exact hlt) (mk ((k + j * 10 : Nat) : Int))
      rw [S.out j hlt] at HO
      have ST := Lib.hid HO
      have HB := Lib.hid (below_put (i := j * 10) hb hBg (mk ((k + j * 10 : Nat) : Int)))
      have HG := Lib.hid (grown_put (i := j * 10) (show w.grownBy wr (some g) from hgr) (mk ((k + j * 10 : Nat) : Int)))
      clear HO hown hb hgr e3
      generalize ((k + j * 10 : Nat) : Int) = m at *
      have q1 : ((m + 1) % 3 == 0) = tri (m + 1) := rfl
      have q5 : ((m + 1 + 1 + 1 + 1 + 1) % 3 == 0) = tri (m + 1 + 1 + 1 + 1 + 1) := rfl
      go_wp2_with fail
      go_roundw
      case rel => exact ⟨j + 1, by omega, by go_num, by rw [E3.out], HB.out, ST.out, HG.out⟩
      case measure => simp [intOf]; omega
    · obtain rfl : j = n := by omega
      rw [AL.out] at hown
      have HO := Lib.hid hown
      clear hown
      go_wp2_with fail
      go_ret
      exact ⟨rfl, hb, hgr, HO.out⟩

set_option maxRecDepth 100000 in
set_option maxHeartbeats 4000000 in
theorem heldS (A : Option Addr) (k n c : Nat) (w : World) (hk : k + n * 10 ≤ 41943040) (h : RdH w w.heap.size A (marksH k n)) :
    Calls Try.prog 88 #[.slice A n c, .int .i64 (k : Int)] w fun e w' => e = .returned (.int .i64 ((k + n * 10 : Nat) : Int)) ∧ w = w' := by
  have ML := Lib.hid (marksH_length k n)
  go_enter Try.func88, Try.ntmps88
  go_wp2_with fail
  go_loop [1, 5] (fun q i => ∃ j : Nat, j ≤ n ∧ i = .int .i64 j ∧ q = .int .i64 ((k + j * 10 : Nat) : Int)) (fun _ i => n - (intOf i).toNat)
  case atStart => exact ⟨0, Nat.zero_le _, rfl, rfl⟩
  case round =>
    obtain ⟨j, hj, rfl, rfl⟩ := hrel
    by_cases hlt : j < n
    · obtain ⟨b, o, rfl, hbl, s0, s1, s2, s3, s4, s5, s6, s7, s8, s9⟩ := h.cells (k := j) (by rw [ML.out]; exact hlt)
      rw [marksH_at hlt] at s0 s1 s2 s3 s4 s5 s6 s7 s8 s9
      have hlt2 : (j : Int) < (n : Int) := by omega
      have e3 : ((k + (j + 1) * 10 : Nat) : Int) = ((k + j * 10 : Nat) : Int) + 1 + 1 + 1 + 1 + 1 + 1 + 1 + 1 + 1 + 1 := by omega
      have E3 := Lib.hid e3
      have b1 : ((k + j * 10 : Nat) : Int) ≤ 41943040 := by omega
      have b0 : (0 : Int) ≤ ((k + j * 10 : Nat) : Int) := by omega
      clear h e3
      generalize ((k + j * 10 : Nat) : Int) = m at *
      have q1 : ((m + 1) % 3 == 0) = tri (m + 1) := rfl
      have q5 : ((m + 1 + 1 + 1 + 1 + 1) % 3 == 0) = tri (m + 1 + 1 + 1 + 1 + 1) := rfl
      have n0 : (m != m) = false := by simp
      have n1 : (tri (m + 1) != tri (m + 1)) = false := by simp
      have n5 : (tri (m + 1 + 1 + 1 + 1 + 1) != tri (m + 1 + 1 + 1 + 1 + 1)) = false := by simp
      simp only [mk] at s0 s1 s2 s3 s4 s5 s6 s7 s8 s9
      go_wp2_with fail
      go_round
      case rel => exact ⟨j + 1, by omega, by go_num, by rw [E3.out]⟩
      case measure => simp [intOf]; omega
    · obtain rfl : j = n := by omega
      clear h
      go_wp2_with fail
      go_ret
      exact ⟨rfl, rfl⟩

set_option maxRecDepth 100000 in
theorem markR (B : Nat) (m : Int) (A : Option Addr) (k c : Nat) (hs : List Hd) (w : World) (hB : B ≤ w.heap.size) (hk : k + hs.length * 10 ≤ 41943040) (h : w.ownsRow B 54 10 (.slice A hs.length c) hs.length (rows hs)) :
    Calls Try.prog 37 #[.agg #[.int .i64 m, .slice A hs.length c], .int .i64 (k : Int)] w fun e w' => e = .returned (.int .i64 ((k + hs.length * 10 : Nat) : Int)) ∧ Below B w w' ∧ w.grownBy w' (Value.slice A hs.length c).ownBlock ∧ w'.ownsRow B 54 10 (.slice A hs.length c) hs.length (rows (marksH k hs.length)) := by
  have HB := Lib.hid ((Below.refl B w).alloc hB (.cells #[.int .i64 m, .slice A hs.length c] 46))
  have HG := Lib.hid (grown_allocZ w (.cells #[.int .i64 m, .slice A hs.length c] 46) (Value.slice A hs.length c).ownBlock)
  have X := Lib.hid (markS B A k c hs (w.alloc (.cells #[.int .i64 m, .slice A hs.length c] 46)) hk (own_kept_at h (grown_allocZ w _ none) (fun g e e2 => by cases e2)))
  clear h hk hB
  generalize ((k + hs.length * 10 : Nat) : Int) = q at *
  generalize rows (marksH k hs.length) = R at *
  generalize hs.length = n at *
  go_enter Try.func37, Try.ntmps37
  go_wp2_with fail
  refine X.out.mono ?_
  rintro e w2 ⟨rfl, hb, hg, ho⟩
  have HB2 := Lib.hid (HB.out.trans hb)
  have HG2 := Lib.hid (grown_trans9 HG.out hg)
  have HO := Lib.hid ho
  clear HB HG X hb hg ho
  go_wp2_with fail
  go_ret
  exact ⟨rfl, HB2.out, HG2.out, HO.out⟩

set_option maxRecDepth 100000 in
theorem heldR (m : Int) (A : Option Addr) (k n c : Nat) (w : World) (hk : k + n * 10 ≤ 41943040) (h : RdH w w.heap.size A (marksH k n)) :
    Calls Try.prog 38 #[.agg #[.int .i64 m, .slice A n c], .int .i64 (k : Int)] w fun e w' => e = .returned (.int .i64 ((k + n * 10 : Nat) : Int)) ∧ Below w.heap.size w w' := by
  have B0 := Lib.hid (newS 46 #[.int .i64 m, .slice A n c] w)
  have X := Lib.hid (heldS A k n c (w.alloc (.cells #[.int .i64 m, .slice A n c] 46)) hk (h.next B0.out.1))
  have d0 : decide (((k + n * 10 : Nat) : Int) < 0) = false := decide_eq_false (by omega)
  clear h hk
  generalize ((k + n * 10 : Nat) : Int) = q at *
  go_enter Try.func38, Try.ntmps38
  go_wp2_with fail
  refine X.out.mono ?_
  rintro e w2 ⟨rfl, rfl⟩
  clear X
  go_wp2_with fail
  go_ret
  exact ⟨rfl, B0.out.1⟩
end Go.Proofs.Ytelkflgmjfmadaa.rcvd
