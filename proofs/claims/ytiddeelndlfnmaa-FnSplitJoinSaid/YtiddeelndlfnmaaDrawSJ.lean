/- The draws of spec for SplitString, LessString and JoinStrings: strings of bounded size, whatever the bytes are. -/
import Derived.Test.YtiddeelndlfnmaaCurStr
import Derived.Test.YtiddeelndlfnmaaStrs2
namespace Go.Proofs.Ytiddeelndlfnmaa.draw
open Go.RowKit Go.Proofs.Ytiddeelndlfnmaa.cur Go.Proofs.Ytiddeelndlfnmaa.strs

theorem less (A : Option Addr) (n c : Nat) (w : World) (hn : n ≤ 65536) (h : Bytes w w.heap.size A n) :
    Calls Try.prog 14 #[.slice A n c] w (Two 10 10 w) := by
  have hc := Lib.hid (new_cur c (by omega) h)
  have hb0 : Below w.heap.size w (w.alloc (.cells #[.slice A n c, .int .i64 0, .int .u64 0] 44)) := (Below.refl _ _).alloc (Nat.le_refl _) _
  clear h
  go_enter Try.func14, Try.ntmps14
  go_wp2_with fail
  refine (any1 _ 0 _ hc.out (by omega)).mono ?_
  rintro e w1 ⟨x, rfl, hx, hc1, hg1⟩
  have hb1 := below_of_grown hb0 hg1
  go_wp2_with fail
  refine (any1 _ 2 _ hc1 (by omega)).mono ?_
  rintro e w2 ⟨y, rfl, hy, hc2, hg2⟩
  have hb2 := below_of_grown hb1 hg2
  go_wp2_with fail
  go_ret2
  exact ⟨x, y, rfl, hx, hy, hb2⟩

theorem split (A : Option Addr) (n c : Nat) (w : World) (hn : n ≤ 65536) (h : Bytes w w.heap.size A n) :
    Calls Try.prog 9 #[.slice A n c] w (Two 10 10 w) := by
  have hc := Lib.hid (new_cur c (by omega) h)
  have hb0 : Below w.heap.size w (w.alloc (.cells #[.slice A n c, .int .i64 0, .int .u64 0] 44)) := (Below.refl _ _).alloc (Nat.le_refl _) _
  clear h
  go_enter Try.func9, Try.ntmps9
  go_wp2_with fail
  refine (any1 _ 0 _ hc.out (by omega)).mono ?_
  rintro e w1 ⟨x, rfl, hx, hc1, hg1⟩
  have hb1 := below_of_grown hb0 hg1
  go_wp2_with fail
  refine (of_new 10 _ 2 5 [⟨#[44]⟩, ⟨#[44]⟩, ⟨#[32]⟩, ⟨#[]⟩, ⟨#[44, 44]⟩] _ w1 hc1 (by omega) (by omega) (by omega) rfl rfl (by decide)).mono ?_
  rintro e w2 ⟨y, rfl, hy, hc2, hg2⟩
  have hb2 := below_of_grown hb1 hg2
  go_wp2_with fail
  go_ret2
  exact ⟨x, y, rfl, hx, hy, hb2⟩

theorem infoS3 : (Try.prog.info? 9).map (fun i => (i.zero, i.size, i.bytes)) = some (some (.string ⟨#[]⟩), 1, 16) := by kernel_rfl

/-- What DrawJoinStrings gives: a list in new memory. -/
def ListSep (w : World) (e : Ending) (w' : World) : Prop := ∃ (v : Value) (xs : List ByteArray) (y : ByteArray), e = .returned (.tuple #[v, .string y]) ∧ w'.ownsRow w.heap.size 9 1 v xs.length (xs.map Value.string) ∧ weight xs ≤ 5000 ∧ xs.length ≤ 5 ∧ y.size ≤ 10 ∧ Below w.heap.size w w'

theorem infoU8 : (Try.prog.info? 5).map (fun i => (i.zero, i.size, i.bytes)) = some (some (.int .u8 0), 1, 1) := by kernel_rfl

/-- n zero bytes. -/
def zeros (n : Nat) : ByteArray := ⟨(List.replicate n (0 : UInt8)).toArray⟩
theorem zeros_size (n : Nat) : (zeros n).size = n := by simp [zeros, ← ByteArray.size_data]
theorem conv_zeros {w : World} {B g n : Nat} (h : w.ownsRow B 5 1 (.slice (some ⟨g, 0, none⟩) n n) n (madeCells (Value.cells (.int .u8 0)) (n * 1)).toList) :
    (convert 22 9 (.slice (some ⟨g, 0, none⟩) n n)).run Try.prog w = .ok (.string (zeros n)) w := by
  have hc := run_convert_bytes_back (P := Try.prog) w 22 9 5 ⟨g, 0, none⟩ n (List.replicate n (0 : UInt8)) Try.underlying22 Try.underlying5 Try.underlying9 (fun j hj => by
    have hj2 : j < n := by simpa using hj
    have e : (madeCells (Value.cells (.int .u8 0)) (n * 1)).toList = List.replicate n (.int .u8 0) := by
      rw [Nat.mul_one]; exact toList_madeCells_one _ _
    rw [e] at h
    have := h.cells (g := g) rfl j (.int .u8 0) (by simp [hj2])
    rw [this]; simp)
  rw [List.length_replicate] at hc
  exact hc

set_option maxHeartbeats 1000000 in
theorem join (A : Option Addr) (n c : Nat) (w : World) (hn : n ≤ 65536) (h : Bytes w w.heap.size A n) :
    Calls Try.prog 11 #[.slice A n c] w (ListSep w) := by
  obtain ⟨i0, hi, hz0, hz1, hz2⟩ := info_parts infoS3
  obtain ⟨i8, hi8, hz80, hz81, hz82⟩ := info_parts infoU8
  have hc := new_cur c (by omega) h
  have hb0 : Below w.heap.size w (w.alloc (.cells #[.slice A n c, .int .i64 0, .int .u64 0] 44)) := (Below.refl _ _).alloc (Nat.le_refl _) _
  have hb1 := hb0.alloc hb0.size (.cells #[] 9)
  have ho1 := own_.own_empty (w.alloc (.cells #[.slice A n c, .int .i64 0, .int .u64 0] 44)) 9
  rw [World.size_alloc] at ho1
  have hc1 := Lib.hid (hc.keep ((Below.refl (w.heap.size + 1) _).alloc (by simp) (.cells #[] 9)))
  clear h hc hb0
  go_enter Try.func11, Try.ntmps11
  go_wp2_with fail
  refine (pick _ 0 4 _ hc1.out (by omega) (by omega) (by omega)).mono ?_
  rintro e w1 ⟨r, rfl, r0, r1, hc2, hg1⟩
  obtain ⟨m, rfl⟩ := Int.eq_ofNat_of_zero_le r0
  have hm3 : m ≤ 3 := by omega
  have hb2 := below_of_grown hb1 hg1
  have ho2 := ho1.kept hg1 (.inr (by simp [Value.ownBlock]))
  clear hb1 ho1 hc1 hg1 r0 r1
  have HC := Lib.hid hc2
  clear hc2
  go_wp2_with fail
  go_loopw [5, 7] (fun l i wr => ∃ (k : Nat) (xs : List ByteArray), k ≤ m ∧ i = .int .i64 k ∧ xs.length = k ∧ weight xs ≤ 11 * k ∧ wr.ownsRow (w.heap.size + 1) 9 1 l xs.length (xs.map Value.string) ∧ Below w.heap.size w wr ∧ w.heap.size + 1 ≤ wr.heap.size ∧ Hid (Cur wr w.heap.size (2 + 2 * k)))
    (fun _ i _ => m - (intOf i).toNat)
  case atStart => exact ⟨0, [], Nat.zero_le _, rfl, rfl, Nat.le_refl _, ho2, hb2, by have := HC.out.lt; omega, HC⟩
  case round =>
    obtain ⟨k, xs, hk, rfl, hxl, hw, hown, hb, hsz, HC2⟩ := hrel
    clear ho2 hb2 HC
    by_cases hlt : k < m
    · have hlt2 : (k : Int) < (m : Int) := by omega
      go_wp2_with fail
      refine (any1 _ _ _ HC2.out (by omega)).mono ?_
      rintro e w2 ⟨x, rfl, hx, hc3, hg2⟩
      have hb3 := below_of_grown hb hg2
      have ho3 := hown.kept hg2 (by rcases hown.2 with ⟨rfl, _⟩ | ⟨g, _, _, rfl, hge, _⟩; exact .inl rfl; exact .inr (by simp [Value.ownBlock]; omega))
      have hsz2 := Nat.le_trans hsz hg2.size
      clear hown hb hg2 HC2 hsz
      have HC4 := Lib.hid hc3
      clear hc3
      go_wp2_with (at_builtin; refine wpList_append_own _ rfl (.tmp 19) (.tmp 22) 26 rfl (w.heap.size + 1) 9 i0 (.string ⟨#[]⟩) 1 16 Try.underlying26 hi hz0 hz1 hz2 rfl (by decide) _ xs.length (xs.map Value.string) rfl (ho3.alloc _) ⟨w2.heap.size, 0, none⟩ 1 1 [.string x] rfl rfl (cell_one_new _ _ _) (own_.one_cell _ rfl) (by unfold maxLen; omega) (by omega) (by simp; omega) ?_; intro v' w3 hown' hgrow hnil)
      have ho : w3.ownsRow (w.heap.size + 1) 9 1 v' (xs ++ [x]).length ((xs ++ [x]).map Value.string) := by simpa using hown'
      have hbA := own_.below_append (B := w.heap.size + 1) (Below.refl _ w2) ho3 hsz2 hgrow
      have hb4 := own_.below_append hb3 (own_.own_base ho3 (B := w.heap.size) (by omega)) hb3.size hgrow
      have HC5 := Lib.hid (HC4.out.keep hbA)
      have hsz3 := Nat.le_trans hsz2 hbA.size
      clear hown' hgrow hnil HC4 hbA
      go_roundw
      case rel => exact ⟨k + 1, xs ++ [x], by omega, by go_num, by simp; omega, by rw [weight_snoc]; omega, ho, hb4, hsz3, HC5⟩
      case measure => simp [intOf]; omega
    · obtain rfl : k = m := by omega
      have HX := Lib.hid hxl
      clear hlt hk hxl
      go_wp2_with fail
      refine (one _ _ 20 _ HC2.out (by omega) (by omega) (by omega)).mono ?_
      rintro e w2 ⟨b, rfl, hc3, hg2⟩
      have hb3 := below_of_grown hb hg2
      have ho3 := hown.kept hg2 (by rcases hown.2 with ⟨rfl, _⟩ | ⟨g, _, _, rfl, hge, _⟩; exact .inl rfl; exact .inr (by simp [Value.ownBlock]; omega))
      have hsz2 := Nat.le_trans hsz hg2.size
      clear hown hb hg2 HC2 hsz
      have HC4 := Lib.hid hc3
      clear hc3
      cases b
      · go_wp2_with fail
        refine (of_new 10 _ _ 5 [⟨#[44]⟩, ⟨#[59]⟩, ⟨#[59]⟩, ⟨#[]⟩, ⟨#[97, 98]⟩] _ w2 HC4.out (by omega) (by omega) (by omega) rfl rfl (by decide)).mono ?_
        rintro e w3 ⟨y, rfl, hy, hc5, hg3⟩
        have hb4 := below_of_grown hb3 hg3
        have ho4 := ho3.kept hg3 (by rcases ho3.2 with ⟨rfl, _⟩ | ⟨g, _, _, rfl, hge, _⟩; exact .inl rfl; exact .inr (by simp [Value.ownBlock]; omega))
        have hxl := HX.out
        go_wp2_with fail
        go_ret2
        exact ⟨_, xs, y, rfl, own_.own_base ho4 (by omega), by omega, by omega, hy, hb4⟩
      · go_wp2_with fail
        refine (pick _ _ 20 _ HC4.out (by omega) (by omega) (by omega)).mono ?_
        rintro e w3 ⟨q, rfl, q0, q1, hc5, hg3⟩
        obtain ⟨t, rfl⟩ := Int.eq_ofNat_of_zero_le q0
        have ht : t ≤ 19 := by omega
        have hb4 := below_of_grown hb3 hg3
        have ho4 := ho3.kept hg3 (by rcases ho3.2 with ⟨rfl, _⟩ | ⟨g, _, _, rfl, hge, _⟩; exact .inl rfl; exact .inr (by simp [Value.ownBlock]; omega))
        have hsz3 := Nat.le_trans hsz2 hg3.size
        clear ho3 hb3 hg3 HC4 hsz2 q0 q1
        have HC6 := Lib.hid hc5
        clear hc5
        go_wp2_with (at_make; refine wpList_make_full _ rfl _ _ 22 rfl w3.heap.size 5 i8 (.int .u8 0) 1 Try.underlying22 hi8 hz80 hz81 _ _ _ _ (3990 + t) rfl rfl (by go_num) (by go_num) (by rw [hz82]; omega) (by unfold maxLen; omega) (Nat.le_refl _) ?_; intro w4 hz hg4)
        have hcv := conv_zeros hz
        have hb5 := hb4.grown hg4 hb4.size (fun k e => by cases e)
        have ho5 := ho4.kept hg4 (by rcases ho4.2 with ⟨rfl, _⟩ | ⟨g, _, _, rfl, hge, _⟩; exact .inl rfl; exact .inr (by simp [Value.ownBlock]))
        have hsz4 := Nat.le_trans hsz3 hg4.size
        have HC7 := Lib.hid (HC6.out.keep ((Below.refl (w.heap.size + 1) _).grown hg4 hsz3 (fun k e => by cases e)))
        have hZ := zeros_size (3990 + t)
        clear hz hb4 ho4 hg4 hsz3 HC6
        rw [hcv]
        clear hcv
        have hxs5 : xs.length ≤ 3 := by have := HX.out; omega
        go_wp2_with (at_builtin; refine wpList_append_own _ rfl (.tmp 26) (.tmp 32) 26 rfl (w.heap.size + 1) 9 i0 (.string ⟨#[]⟩) 1 16 Try.underlying26 hi hz0 hz1 hz2 rfl (by decide) _ xs.length (xs.map Value.string) rfl (ho5.alloc _) ⟨w4.heap.size, 0, none⟩ 1 1 [.string (zeros (3990 + t))] rfl rfl (cell_one_new _ _ _) (own_.one_cell _ rfl) (by unfold maxLen; omega) (by omega) (by simp; omega) ?_; intro v' w5 hown' hgrow hnil)
        have ho : w5.ownsRow (w.heap.size + 1) 9 1 v' (xs ++ [zeros (3990 + t)]).length ((xs ++ [zeros (3990 + t)]).map Value.string) := by simpa using hown'
        have hbA := own_.below_append (B := w.heap.size + 1) (Below.refl _ w4) ho5 hsz4 hgrow
        have hb6 := own_.below_append hb5 (own_.own_base ho5 (B := w.heap.size) (by omega)) hb5.size hgrow
        have HC8 := Lib.hid (HC7.out.keep hbA)
        have HL := Lib.hid (show (xs ++ [zeros (3990 + t)]).length ≤ 5 by simp; omega)
        have HW := Lib.hid (weight_snoc xs (zeros (3990 + t)))
        clear hown' hgrow hnil HC7 hbA hb5 ho5
        generalize xs ++ [zeros (3990 + t)] = ys at *
        go_wp2_with fail
        refine (of_new 10 _ _ 5 [⟨#[44]⟩, ⟨#[59]⟩, ⟨#[59]⟩, ⟨#[]⟩, ⟨#[97, 98]⟩] _ w5 HC8.out (by omega) (by omega) (by omega) rfl rfl (by decide)).mono ?_
        rintro e w6 ⟨y, rfl, hy, hc5, hg3⟩
        have hb7 := below_of_grown hb6 hg3
        have ho7 := ho.kept hg3 (by rcases ho.2 with ⟨rfl, _⟩ | ⟨g, _, _, rfl, hge, _⟩; exact .inl rfl; exact .inr (by simp [Value.ownBlock]; omega))
        go_wp2_with fail
        go_ret2
        exact ⟨_, ys, y, rfl, own_.own_base ho7 (by omega), by have := HW.out; have := HX.out; omega, HL.out, hy, hb7⟩
end Go.Proofs.Ytiddeelndlfnmaa.draw
