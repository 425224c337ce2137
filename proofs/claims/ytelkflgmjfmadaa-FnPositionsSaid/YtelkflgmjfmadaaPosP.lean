/- impl's coordinatesWith, nearOnes, placesAt. -/
import Derived.Test.YtelkflgmjfmadaaPosI
import Derived.Test.YtelkflgmjfmadaaLst
namespace Go.Proofs.Ytelkflgmjfmadaa.posp
open Go.RowKit Go.Proofs.Ytelkflgmjfmadaa.pos Go.Proofs.Ytelkflgmjfmadaa.in_ Go.Proofs.Ytelkflgmjfmadaa.posi Go.Proofs.Ytelkflgmjfmadaa.ints Go.Proofs.Ytelkflgmjfmadaa.lst

set_option maxRecDepth 100000 in
set_option maxHeartbeats 1000000 in
theorem coordinatesWith (r s lo hi : Int) (hs : s = 99 ∨ s = 100) (hr : 0 ≤ r ∧ r < s) (hl : 0 ≤ lo ∧ lo ≤ 9899) (hh : 0 ≤ hi ∧ hi ≤ 9899) (w : World) :
    Calls Try.prog 56 #[.int .i64 r, .int .i64 s, .int .i64 lo, .int .i64 hi] w
      fun e w' => ∃ v, e = .returned v ∧ w'.ownsRow w.heap.size 3 1 v (up r s lo (cnt r s hi)).length (cellsI (up r s lo (cnt r s hi))) ∧ Below w.heap.size w w' := by
  obtain ⟨k0, hf, h0, h1⟩ := first_k hs hr hl.1
  have F := Lib.hid (fun w => firstFrom lo r s hs hr ⟨hl.1, by omega⟩ w)
  have HC := Lib.hid (fun k : Nat => cnt_lt (hi := hi) (k := k) hs hr)
  have HK := Lib.hid (cnt_le hs hr hh.2)
  have fg := first_ge (lo := lo) hs hr
  rw [hf] at fg
  have H0 := Lib.hid h0
  have H1 := Lib.hid h1
  have HU := Lib.hid (fun (k : Nat) (h : lo ≤ r + (k : Int) * s) => up_yes h)
  have HL := Lib.hid (fun k => up_length r s lo k)
  have s0 : 99 ≤ s := by omega
  have s1 : s ≤ 100 := by omega
  rw [hf] at F
  obtain ⟨l0, l1⟩ := hl
  obtain ⟨g0, g1⟩ := hh
  have HS := Lib.hid (show ∀ (k : Nat) (n : Int), n = r + k * s → n + s = r + ((k + 1 : Nat) : Int) * s from fun k n hn => by rw [hn, Int.natCast_add, Int.add_mul]; omega)
  have hk0 : k0 ≤ 100 := by
    rcases hs with rfl | rfl <;> omega
  obtain ⟨i0, hi0, hz0, hz1, hz2⟩ := info_parts infoI
  generalize cnt r s hi = K at *
  generalize hn0 : r + (k0 : Int) * s = n0 at *
  clear hs hf h0 h1 hr
  go_enter Try.func56, Try.ntmps56
  go_wp2_with fail
  refine (F.out _).mono ?_
  rintro e w' ⟨rfl, rfl⟩
  go_wp2_with fail
  go_loopw [9, 10] (fun v i wr => ∃ k : Nat, k0 ≤ k ∧ (k = k0 ∨ k ≤ K) ∧ k ≤ 201 ∧ ∃ n : Int, n = r + k * s ∧ 0 ≤ n ∧ n ≤ 9999 ∧ i = .int .i64 n ∧ wr.ownsRow w.heap.size 3 1 v (up r s lo k).length (cellsI (up r s lo k)) ∧ Below w.heap.size w wr) (fun _ i _ => 10000 - (intOf i).toNat)
  case atStart => exact ⟨k0, Nat.le_refl _, .inl rfl, by omega, n0, hn0.symm, by omega, by omega, rfl, by rw [H0.out k0 (Nat.le_refl _)]; exact World.ownsRow_nil _ _ _ _, Below.refl _ _⟩
  case round =>
    obtain ⟨k, hk, hk2, hk3, n, hn, m0, m1, rfl, hown, hb⟩ := hrel
    have hsz := hb.size
    have hkk := HC.out k
    rw [← hn] at hkk
    by_cases hlt : n ≤ hi
    · have hkK := hkk.mp hlt
      have HX := Lib.hid (HU.out k (H1.out k hk))
      rw [← hn] at HX
      have HN := Lib.hid (HS.out k n hn)
      have hlen := HL.out k
      generalize up r s lo k = L at *
      have hKK := HK.out
      clear hn hn0 fg hkk
      go_wp2_with (at_builtin; refine wpList_append_own _ rfl (.tmp 21) (.tmp 23) 87 rfl w.heap.size 3 i0 (.int .i64 0) 1 8 Try.underlying87 hi0 hz0 hz1 hz2 rfl (by decide) _ L.length (cellsI L) rfl (hown.alloc _) ⟨wr.heap.size, 0, none⟩ 1 1 [.int .i64 n] rfl rfl (cell_one_new _ _ _) (own_.one_cell _ rfl) (by unfold maxLen; omega) (by omega) (by simp; omega) ?_; intro v' w3 hown' hgrow hnil)
      have hb' := own_.below_append hb hown hsz hgrow
      have HO := Lib.hid (own_growI hown')
      clear hown' hgrow hnil hown hb
      go_roundw
      case rel => exact ⟨k + 1, by omega, .inr (by omega), by omega, n + s, HN.out, by omega, by omega, rfl, by rw [HX.out]; exact HO.out, hb'⟩
      case measure => simp [intOf]; omega
    · have hkK : ¬ k < K := fun h => hlt (hkk.mpr h)
      have HE : up r s lo k = up r s lo K := by
        rcases hk2 with rfl | h
        · rw [H0.out k (Nat.le_refl _), H0.out K (by omega)]
        · rw [show k = K by omega]
      rw [HE] at hown
      clear hn hn0 fg hkk HE
      go_wp2_with fail
      go_ret
      exact ⟨_, rfl, hown, hb⟩

set_option maxRecDepth 100000 in
set_option maxHeartbeats 1000000 in
theorem nearOnes (r s d : Int) (xs : List Int) (A : Option Addr) (n c : Nat) (hs : s = 99 ∨ s = 100) (hr : 0 ≤ r ∧ r < s) (hx : ∀ x ∈ xs, 0 ≤ x ∧ x ≤ 9899) (hn : n ≤ 1000) (w : World) (hrd : RdI w w.heap.size A n xs) :
    Calls Try.prog 55 #[.slice A n c, .int .i64 r, .int .i64 s, .int .i64 d] w
      fun e w' => ∃ v, e = .returned v ∧ w'.ownsRow w.heap.size 3 1 v (nears r s d xs).length (cellsI (nears r s d xs)) ∧ Below w.heap.size w w' := by
  have HD := Lib.hid (fun x (h : x ∈ xs) w => leastDifference x r s hs hr (hx x h) w)
  have HE := Lib.hid (show nears r s d (xs.take n) = nears r s d xs by rw [List.take_of_length_le (by have := hrd.1; omega)])
  have HL := Lib.hid (fun k : Nat => show (nears r s d (xs.take k)).length ≤ k from Nat.le_trans (nears_length r s d _) (by rw [List.length_take]; omega))
  obtain ⟨i0, hi0, hz0, hz1, hz2⟩ := info_parts infoI
  clear hs hr hx
  go_enter Try.func55, Try.ntmps55
  go_wp2_with fail
  go_loopw [9, 14] (fun v i wr => ∃ k : Nat, k ≤ n ∧ i = .int .i64 k ∧ wr.ownsRow w.heap.size 3 1 v (nears r s d (xs.take k)).length (cellsI (nears r s d (xs.take k))) ∧ Below w.heap.size w wr) (fun _ i _ => n - (intOf i).toNat)
  case atStart => exact ⟨0, Nat.zero_le _, rfl, World.ownsRow_nil _ _ _ _, Below.refl _ _⟩
  case round =>
    obtain ⟨k, hk, rfl, hown, hb⟩ := hrel
    have hsz := hb.size
    have hlen := HL.out k
    by_cases hlt : k < n
    · obtain ⟨b, o, x, rfl, hbl, hxk, hc⟩ := (hrd.below hb (Nat.le_refl _)).at_ hlt
      have hlt2 : (k : Int) < (n : Int) := by omega
      have F := Lib.hid (HD.out x (List.mem_of_getElem? hxk))
      by_cases hd : ld x r s ≤ d
      · have HS := Lib.hid (nears_yes hxk hd)
        generalize nears r s d (xs.take k) = L at *
        generalize ld x r s = q at *
        clear hxk hrd
        go_wp2_with fail
        refine (F.out _).mono ?_
        rintro e w' ⟨rfl, rfl⟩
        go_wp2_with (at_builtin; refine wpList_append_own _ rfl (.tmp 24) (.tmp 26) 87 rfl w.heap.size 3 i0 (.int .i64 0) 1 8 Try.underlying87 hi0 hz0 hz1 hz2 rfl (by decide) _ L.length (cellsI L) rfl (hown.alloc _) ⟨wr.heap.size, 0, none⟩ 1 1 [.int .i64 x] rfl rfl (cell_one_new _ _ _) (own_.one_cell _ rfl) (by unfold maxLen; omega) (by omega) (by simp; omega) ?_; intro v' w3 hown' hgrow hnil)
        have hb' := own_.below_append hb hown hsz hgrow
        have HO := Lib.hid (own_growI hown')
        clear hown' hgrow hnil hown hb hc
        go_roundw
        case rel => exact ⟨k + 1, by omega, by go_num, by rw [HS.out]; exact HO.out, hb'⟩
        case measure => simp [intOf]; omega
      · have HS := Lib.hid (nears_no hxk hd)
        have hd2 : decide (ld x r s ≤ d) = false := decide_eq_false hd
        generalize nears r s d (xs.take k) = L at *
        generalize ld x r s = q at *
        clear hxk hrd hd
        go_wp2_with fail
        refine (F.out _).mono ?_
        rintro e w' ⟨rfl, rfl⟩
        go_wp2_with fail
        go_roundw
        case rel => exact ⟨k + 1, by omega, by go_num, by rw [HS.out]; exact hown, hb⟩
        case measure => simp [intOf]; omega
    · obtain rfl : k = n := by omega
      rw [HE.out] at hown
      clear hrd
      go_wp2_with fail
      go_ret
      exact ⟨_, rfl, hown, hb⟩

set_option maxRecDepth 100000 in
set_option maxHeartbeats 2000000 in
theorem placesAt (xs ys : List Int) (A B : Option Addr) (n c m d : Nat) (hn : n ≤ 1000) (hm : m ≤ 1000) (w : World) (hx : RdI w w.heap.size A n xs) (hy : RdI w w.heap.size B m ys) :
    Calls Try.prog 57 #[.slice A n c, .slice B m d] w
      fun e w' => ∃ v, e = .returned v ∧ w'.ownsRow w.heap.size 25 2 v (n * m) (cellsI (places xs ys)) ∧ Below w.heap.size w w' := by
  have HE := Lib.hid (show places xs (ys.take m) = places xs ys by rw [List.take_of_length_le (by have := hy.1; omega)])
  have HF := Lib.hid (fun y => show row y (xs.take n) = row y xs by rw [List.take_of_length_le (by have := hx.1; omega)])
  obtain ⟨i0, hi0, hz0, hz1, hz2⟩ := info_parts infoP
  go_enter Try.func57, Try.ntmps57
  go_wp2_with fail
  go_loopw [5, 12] (fun v i wr => ∃ j : Nat, j ≤ m ∧ i = .int .i64 j ∧ wr.ownsRow w.heap.size 25 2 v (n * j) (cellsI (places xs (ys.take j))) ∧ Below w.heap.size w wr) (fun _ i _ => m - (intOf i).toNat)
  case atStart => exact ⟨0, Nat.zero_le _, rfl, World.ownsRow_nil _ _ _ _, Below.refl _ _⟩
  case round =>
    obtain ⟨j, hj, rfl, hown, hb⟩ := hrel
    by_cases hlt : j < m
    · obtain ⟨b, o, y, rfl, hbl, hyk, hc⟩ := (hy.below hb (Nat.le_refl _)).at_ hlt
      have hlt2 : (j : Int) < (m : Int) := by omega
      have HS := Lib.hid (places_take (xs := xs) hyk)
      have hnj : n * j ≤ 1000000 := Nat.mul_le_mul hn (show j ≤ 1000 by omega)
      have HN := Lib.hid (show n * (j + 1) = n * j + n from Nat.mul_succ n j)
      have HFy := Lib.hid (HF.out y)
      have R0 := Lib.hid (row_nil y)
      generalize places xs (ys.take j) = L at *
      generalize n * j = N at *
      clear hyk hy HF
      go_wp2_with fail
      clear hc
      go_loopw [5, 18] (fun v i wr => ∃ k : Nat, k ≤ n ∧ i = .int .i64 k ∧ wr.ownsRow w.heap.size 25 2 v (N + k) (cellsI (L ++ row y (xs.take k))) ∧ Below w.heap.size w wr) (fun _ i _ => n - (intOf i).toNat)
      case atStart => exact ⟨0, Nat.zero_le _, rfl, by rw [List.take_zero, R0.out, List.append_nil]; exact hown, hb⟩
      case round =>
        clear hown hb
        obtain ⟨k, hk, rfl, hown, hb⟩ := hrel
        have hsz := hb.size
        by_cases hlt : k < n
        · obtain ⟨b, o, x, rfl, hbl, hxk, hc⟩ := (hx.below hb (Nat.le_refl _)).at_ hlt
          have hlt3 : (k : Int) < (n : Int) := by omega
          have HT := Lib.hid (row_take (y := y) hxk)
          generalize row y (xs.take k) = R at *
          clear hxk hx
          go_wp2_with (at_builtin; refine wpList_append_own _ rfl (.tmp 22) (.tmp 26) 35 rfl w.heap.size 25 i0 (.agg #[.int .i64 0, .int .i64 0]) 2 16 Try.underlying35 hi0 hz0 hz1 hz2 rfl (by decide) _ (N + k) (cellsI (L ++ R)) rfl (hown.alloc _) ⟨wr.heap.size, 0, none⟩ 1 1 [.int .i64 x, .int .i64 y] rfl rfl (cells_new _ _ #[.int .i64 x, .int .i64 y]) (two_cells x y) (by unfold maxLen; omega) (by omega) (by simp; omega) ?_; intro v' w3 hown' hgrow hnil)
          have hb' := own_.below_append hb hown hsz hgrow
          have HO := Lib.hid (own_growP hown')
          clear hown' hgrow hnil hown hb hc
          go_roundw
          case rel => exact ⟨k + 1, by omega, by go_num, by rw [HT.out, ← List.append_assoc]; exact HO.out, hb'⟩
          case measure => simp [intOf]; omega
        · obtain rfl : k = n := by omega
          rw [HFy.out] at hown
          clear hx
          go_wp2_with fail
          go_roundw
          case rel => exact ⟨j + 1, by omega, by go_num, by rw [HS.out, HN.out]; exact hown, hb⟩
          case measure => simp [intOf]; omega
    · obtain rfl : j = m := by omega
      rw [HE.out] at hown
      clear hx hy
      go_wp2_with fail
      go_ret
      exact ⟨_, rfl, hown, hb⟩
end Go.Proofs.Ytelkflgmjfmadaa.posp
