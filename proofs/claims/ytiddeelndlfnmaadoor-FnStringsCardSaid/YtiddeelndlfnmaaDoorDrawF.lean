/- The draws of spec for FormatInt, ParseInt and AppendChecksum: numbers in range, strings of bounded size, whatever the bytes are. -/
import Derived.Test.YtiddeelndlfnmaaDoorCurInt
import Derived.Test.YtiddeelndlfnmaaDoorNum
import Derived.Laws.MakeOwn
namespace Go.Proofs.YtiddeelndlfnmaaDoor.draw
open Go.RowKit Go.Proofs.YtiddeelndlfnmaaDoor.cur

/-- A Draw function of one number. -/
def Int1 (lo hi : Int) (w : World) (e : Ending) (w' : World) : Prop := ∃ r : Int, e = .returned (.int .i64 r) ∧ lo ≤ r ∧ r ≤ hi ∧ Below w.heap.size w w'
/-- A Draw function of one string. -/
def Str1 (k : Nat) (w : World) (e : Ending) (w' : World) : Prop := ∃ x : ByteArray, e = .returned (.string x) ∧ x.size ≤ k ∧ Below w.heap.size w w'

set_option maxHeartbeats 1000000 in
theorem formatInt (A : Option Addr) (n c : Nat) (w : World) (hn : n ≤ 65536) (h : Bytes w w.heap.size A n) :
    Calls Tryd.prog 9 #[.slice A n c] w (Int1 (-1000000) 1000000 w) := by
  have hc := Lib.hid (new_cur c (by omega) h)
  have hb0 : Below w.heap.size w (w.alloc (.cells #[.slice A n c, .int .i64 0, .int .u64 0] 37)) := (Below.refl _ _).alloc (Nat.le_refl _) _
  clear h
  go_enter Tryd.func9, Tryd.ntmps9
  go_wp2_with fail
  refine (pick _ 0 1000 _ hc.out (by omega) (by omega) (by omega)).mono ?_
  rintro e w1 ⟨r, rfl, r0, r1, hc1, hg1⟩
  have hb1 := below_of_grown hb0 hg1
  go_wp2_with fail
  refine (among_new (-1000000) 1000000 _ 2 9 [0, 1, -1, 10, 999999, -999999, 1000000, -1000000, r - 500] _ w1 hc1 (by omega) (by omega) (by omega) rfl rfl (by simp; omega)).mono ?_
  rintro e w2 ⟨q, rfl, q0, q1, hc2, hg2⟩
  have hb2 := below_of_grown hb1 hg2
  go_wp2_with fail
  go_ret
  exact ⟨q, rfl, q0, q1, hb2⟩

set_option maxHeartbeats 1000000 in
theorem parseInt (A : Option Addr) (n c : Nat) (w : World) (hn : n ≤ 65536) (h : Bytes w w.heap.size A n) :
    Calls Tryd.prog 12 #[.slice A n c] w (Str1 21 w) := by
  have hc := Lib.hid (new_cur c (by omega) h)
  have hb0 : Below w.heap.size w (w.alloc (.cells #[.slice A n c, .int .i64 0, .int .u64 0] 37)) := (Below.refl _ _).alloc (Nat.le_refl _) _
  clear h
  go_enter Tryd.func12, Tryd.ntmps12
  go_wp2_with fail
  refine (one _ 0 2 _ hc.out (by omega) (by omega) (by omega)).mono ?_
  rintro e w1 ⟨b, rfl, hc1, hg1⟩
  have hb1 := below_of_grown hb0 hg1
  have HC1 := Lib.hid hc1
  clear hc1
  cases b
  · go_wp2_with fail
    refine (pick _ _ 2000 _ HC1.out (by omega) (by omega) (by omega)).mono ?_
    rintro e w2 ⟨r, rfl, r0, r1, hc2, hg2⟩
    have hb2 := below_of_grown hb1 hg2
    have hq := Lib.hid (fun w => num.num_any (r - 1000) w (by omega) (by omega) (by omega))
    have hz := num.txt_size (r - 1000) (by omega) (by omega)
    clear hc2
    generalize num.txt (r - 1000) = T at *
    go_wp2_with fail
    refine (hq.out _).mono ?_
    rintro e w3 ⟨rfl, j, rfl⟩
    go_wp2_with fail
    go_ret
    exact ⟨T, rfl, hz, aid.below_drewN hb2 j⟩
  · go_wp2_with fail
    refine (of_list 21 _ _ 11 _ w1 HC1.out (by omega) (by omega) (by omega) rfl (by decide)).mono ?_
    rintro e w2 ⟨y, rfl, hy, hc2, hg2⟩
    have hb2 := below_of_grown hb1 hg2
    go_wp2_with fail
    go_ret
    exact ⟨y, rfl, hy, hb2⟩

theorem infoU8 : (Tryd.prog.info? 5).map (fun i => (i.zero, i.size, i.bytes)) = some (some (.int .u8 0), 1, 1) := by kernel_rfl

/-- n zero bytes. -/
def zeros (n : Nat) : ByteArray := ⟨(List.replicate n (0 : UInt8)).toArray⟩
theorem zeros_size (n : Nat) : (zeros n).size = n := by simp [zeros, ← ByteArray.size_data]
theorem conv_zeros {w : World} {B g n : Nat} (h : w.ownsRow B 5 1 (.slice (some ⟨g, 0, none⟩) n n) n (madeCells (Value.cells (.int .u8 0)) (n * 1)).toList) :
    (convert 22 9 (.slice (some ⟨g, 0, none⟩) n n)).run Tryd.prog w = .ok (.string (zeros n)) w := by
  have hc := run_convert_bytes_back (P := Tryd.prog) w 22 9 5 ⟨g, 0, none⟩ n (List.replicate n (0 : UInt8)) Tryd.underlying22 Tryd.underlying5 Tryd.underlying9 (fun j hj => by
    have hj2 : j < n := by simpa using hj
    have e : (madeCells (Value.cells (.int .u8 0)) (n * 1)).toList = List.replicate n (.int .u8 0) := by
      rw [Nat.mul_one]; exact toList_madeCells_one _ _
    rw [e] at h
    have := h.cells (g := g) rfl j (.int .u8 0) (by simp [hj2])
    rw [this]; simp)
  rw [List.length_replicate] at hc
  exact hc

set_option maxHeartbeats 1000000 in
theorem appendChecksum (A : Option Addr) (n c : Nat) (w : World) (hn : n ≤ 65536) (h : Bytes w w.heap.size A n) :
    Calls Tryd.prog 15 #[.slice A n c] w (Str1 4000 w) := by
  obtain ⟨i8, hi8, hz80, hz81, hz82⟩ := info_parts infoU8
  have hc := Lib.hid (new_cur c (by omega) h)
  have hb0 : Below w.heap.size w (w.alloc (.cells #[.slice A n c, .int .i64 0, .int .u64 0] 37)) := (Below.refl _ _).alloc (Nat.le_refl _) _
  clear h
  go_enter Tryd.func15, Tryd.ntmps15
  go_wp2_with fail
  refine (one _ 0 20 _ hc.out (by omega) (by omega) (by omega)).mono ?_
  rintro e w1 ⟨b, rfl, hc1, hg1⟩
  have hb1 := below_of_grown hb0 hg1
  have HC1 := Lib.hid hc1
  clear hc1
  cases b
  · go_wp2_with fail
    refine (any1 _ _ _ HC1.out (by omega)).mono ?_
    rintro e w2 ⟨x, rfl, hx, hc2, hg2⟩
    have hb2 := below_of_grown hb1 hg2
    go_wp2_with fail
    go_ret
    exact ⟨x, rfl, by omega, hb2⟩
  · go_wp2_with fail
    refine (pick _ _ 10 _ HC1.out (by omega) (by omega) (by omega)).mono ?_
    rintro e w3 ⟨q, rfl, q0, q1, hc5, hg3⟩
    obtain ⟨t, rfl⟩ := Int.eq_ofNat_of_zero_le q0
    have ht : t ≤ 9 := by omega
    have hb4 := below_of_grown hb1 hg3
    clear hc5 q0 q1
    go_wp2_with (at_make; refine wpList_make_full _ rfl _ _ 22 rfl w3.heap.size 5 i8 (.int .u8 0) 1 Tryd.underlying22 hi8 hz80 hz81 _ _ _ _ (3990 + t) rfl rfl (by go_num) (by go_num) (by rw [hz82]; omega) (by unfold maxLen; omega) (Nat.le_refl _) ?_; intro w4 hz hg4)
    have hcv := conv_zeros hz
    have hb5 := hb4.grown hg4 hb4.size (fun k e => by cases e)
    have hZ := zeros_size (3990 + t)
    rw [hcv]
    clear hz hcv
    generalize zeros (3990 + t) = Z at *
    go_wp2
    go_ret
    exact ⟨Z, rfl, by omega, hb5⟩
end Go.Proofs.YtiddeelndlfnmaaDoor.draw
