/- The draws of spec for chapter 3's law of nearest names: lists of short names in new memory, short strings, numbers in range, whatever the bytes are. -/
import Derived.Test.YtjfhkbpkiblkmaaDoorDrawN
import Derived.Test.YtjfhkbpkiblkmaaDoorNamP
import Derived.Test.YtjfhkbpkiblkmaaDoorNum
import Derived.Test.YtjfhkbpkiblkmaaDoorOwn
import Derived.Test.YtjfhkbpkiblkmaaDoorStrs2
namespace Go.Proofs.YtjfhkbpkiblkmaaDoor.drawp
open Go.RowKit Go.Proofs.YtjfhkbpkiblkmaaDoor.cur Go.Proofs.YtjfhkbpkiblkmaaDoor.bin Go.Proofs.YtjfhkbpkiblkmaaDoor.good_ Go.Proofs.YtjfhkbpkiblkmaaDoor.bitsi Go.Proofs.YtjfhkbpkiblkmaaDoor.nam Go.Proofs.YtjfhkbpkiblkmaaDoor.strs Go.Proofs.YtjfhkbpkiblkmaaDoor.drawn

def StrInt (k : Nat) (a b : Int) (w : World) (e : Ending) (w' : World) : Prop := ∃ (x : ByteArray) (y : Int), e = .returned (.tuple #[.string x, .int .i64 y]) ∧ x.size ≤ k ∧ a ≤ y ∧ y ≤ b ∧ Below w.heap.size w w'
def ListBits (w : World) (e : Ending) (w' : World) : Prop := ∃ (v : Value) (xs : List ByteArray) (y : ByteArray), e = .returned (.tuple #[v, .string y]) ∧ w'.ownsRow w.heap.size 9 1 v xs.length (xs.map Value.string) ∧ weight xs ≤ 5000 ∧ xs.length ≤ 30 ∧ y.size ≤ 100 ∧ Below w.heap.size w w'
theorem infoS3 : (Tryd.prog.info? 9).map (fun i => (i.zero, i.size, i.bytes)) = some (some (.string ⟨#[]⟩), 1, 16) := by kernel_rfl

set_option maxRecDepth 100000 in
set_option maxHeartbeats 1000000 in
theorem splitName (A : Option Addr) (n c : Nat) (w : World) (hn : n ≤ 65536) (h : Bytes w w.heap.size A n) :
    Calls Tryd.prog 29 #[.slice A n c] w (Str1 9 w) := by
  have hc := Lib.hid (new_cur c (by omega) h)
  have hb0 : Below w.heap.size w (w.alloc (.cells #[.slice A n c, .int .i64 0, .int .u64 0] 65)) := (Below.refl _ _).alloc (Nat.le_refl _) _
  clear h
  go_enter Tryd.func29, Tryd.ntmps29
  go_wp2_with fail
  refine (one _ 0 3 _ hc.out (by omega) (by omega) (by omega)).mono ?_
  rintro e w1 ⟨b, rfl, hc1, hg1⟩
  have hb1 := below_of_grown hb0 hg1
  have HC1 := Lib.hid hc1
  clear hc1 hg1
  cases b
  · go_wp2_with fail
    refine (flightName _ _ _ HC1.out (by omega)).mono ?_
    rintro e w2 ⟨x, rfl, hx, hc2, hg2⟩
    have hb2 := below_of_grown hb1 hg2
    clear hc2 hg2
    go_wp2_with fail
    go_ret
    exact ⟨x, rfl, hx, hb2⟩
  · go_wp2_with fail
    refine (of_list 9 _ _ 8 _ w1 HC1.out (by omega) (by omega) (by omega) rfl (by decide)).mono ?_
    rintro e w2 ⟨x, rfl, hx, hc2, hg2⟩
    have hb2 := below_of_grown hb1 hg2
    clear hc2 hg2
    go_wp2_with fail
    go_ret
    exact ⟨x, rfl, hx, hb2⟩

theorem own_keep {w w2 : World} {p B e n : Nat} {v : Value} {xs : List Value} (h : w.ownsRow B e 1 v n xs) (hg : w.grownBy w2 (some p)) (hp : p < B) : w2.ownsRow B e 1 v n xs :=
  h.kept hg (by
    rcases h.2 with ⟨h, _⟩ | ⟨g, _, _, h, hge, _⟩
    · exact .inl (by rw [h]; rfl)
    · exact .inr (by rw [h]; simp [Value.ownBlock]; omega))
theorem size_weight {xs : List ByteArray} {x : ByteArray} (h : x ∈ xs) : x.size ≤ weight xs := by
  induction xs with
  | nil => cases h
  | cons y ys ih =>
    have e : weight (y :: ys) = y.size + 1 + weight ys := by simp [weight]
    rw [e]
    rcases List.mem_cons.1 h with rfl | h
    · omega
    · have := ih h; omega
theorem cell_list {w : World} {b k : Nat} {zs : List Int} {cs : Array Value} {t : TypeId} {fz : Nat × Nat} (h : w.heap[b]? = some (.cells cs t fz)) (hcs : cs.toList = zs.map (Value.int .i64)) (_ : k ≤ zs.length) :
    ∀ j x, (zs.take k)[j]? = some x → w.cell? ⟨b, 0 + j, none⟩ = some (.int .i64 x) := by
  intro j x hx
  rw [List.getElem?_take] at hx
  split at hx
  · rw [Lib.cell_of_heap h, Nat.zero_add, ← Array.getElem?_toList, hcs, List.getElem?_map, hx]
    rfl
  · cases hx
set_option maxRecDepth 100000 in
set_option maxHeartbeats 2000000 in
theorem namePart (A : Option Addr) (n c : Nat) (w : World) (hn : n ≤ 65536) (h : Bytes w w.heap.size A n) :
    Calls Tryd.prog 33 #[.slice A n c] w (StrInt 9 (-1) 2 w) := by
  have hc := Lib.hid (new_cur c (by omega) h)
  have hb0 : Below w.heap.size w (w.alloc (.cells #[.slice A n c, .int .i64 0, .int .u64 0] 65)) := (Below.refl _ _).alloc (Nat.le_refl _) _
  clear h
  have BW := Lib.hid (show ∀ k, ∀ x ∈ ([0, 1, 0, 1, -1, 2] : List Int).take k, -1 ≤ x ∧ x ≤ 2 by
    intro k x hx
    have := List.mem_of_mem_take hx
    simp at this
    omega)
  go_enter Tryd.func33, Tryd.ntmps33
  go_wp2_with fail
  refine (flightName _ 0 _ hc.out (by omega)).mono ?_
  rintro e w1 ⟨x, rfl, hx, hc1, hg1⟩
  have hb1 := below_of_grown hb0 hg1
  have hlt := hc1.lt
  have HC1 := Lib.hid (hc1.keep ((Below.refl (w.heap.size + 1) w1).alloc (by omega) (.cells #[.int .i64 0, .int .i64 1, .int .i64 0, .int .i64 1, .int .i64 (-1), .int .i64 2] 3)))
  have hb2 := hb1.alloc hb1.size (.cells #[.int .i64 0, .int .i64 1, .int .i64 0, .int .i64 1, .int .i64 (-1), .int .i64 2] 3)
  have HH := Lib.hid (heap_alloc_new w1 (.cells #[.int .i64 0, .int .i64 1, .int .i64 0, .int .i64 1, .int .i64 (-1), .int .i64 2] 3))
  clear hc1 hg1 hb1
  go_wp2_with fail
  refine (pick _ _ 24 _ HC1.out (by omega) (by omega) (by omega)).mono ?_
  rintro e w3 ⟨q, rfl, q0, q1, hc3, hg3⟩
  have hb3 := below_of_grown hb2 hg3
  have hh3 := (hg3.block w1.heap.size (by simp) (by intro h; injection h with h; omega)).trans HH.out
  have HC3 := Lib.hid hc3
  have HH3 := Lib.hid hh3
  clear hc3 hg3 hh3 hb2
  have hd : q / 11 = 0 ∨ q / 11 = 1 ∨ q / 11 = 2 := by omega
  rcases hd with hd | hd | hd
  · have hd2 : q.tdiv 11 = 0 := by rw [Int.tdiv_eq_ediv_of_nonneg q0]; exact hd
    go_wp2_with fail
    refine (among (-1) 2 _ _ w1.heap.size 0 4 6 (([0, 1, 0, 1, -1, 2] : List Int).take 4) w3 HC3.out (by omega) (by omega) (by omega) rfl (BW.out _) (by omega) (cell_list HH3.out rfl (by decide))).mono ?_
    rintro e w4 ⟨r, rfl, r0, r1, hc4, hg4⟩
    have hb4 := below_of_grown hb3 hg4
    clear hc4 hg4
    go_wp2_with fail
    go_ret2
    exact ⟨x, r, rfl, hx, r0, r1, hb4⟩
  · have hd2 : q.tdiv 11 = 1 := by rw [Int.tdiv_eq_ediv_of_nonneg q0]; exact hd
    go_wp2_with fail
    refine (among (-1) 2 _ _ w1.heap.size 0 5 6 (([0, 1, 0, 1, -1, 2] : List Int).take 5) w3 HC3.out (by omega) (by omega) (by omega) rfl (BW.out _) (by omega) (cell_list HH3.out rfl (by decide))).mono ?_
    rintro e w4 ⟨r, rfl, r0, r1, hc4, hg4⟩
    have hb4 := below_of_grown hb3 hg4
    clear hc4 hg4
    go_wp2_with fail
    go_ret2
    exact ⟨x, r, rfl, hx, r0, r1, hb4⟩
  · have hd2 : q.tdiv 11 = 2 := by rw [Int.tdiv_eq_ediv_of_nonneg q0]; exact hd
    go_wp2_with fail
    refine (among (-1) 2 _ _ w1.heap.size 0 6 6 (([0, 1, 0, 1, -1, 2] : List Int).take 6) w3 HC3.out (by omega) (by omega) (by omega) rfl (BW.out _) (by omega) (cell_list HH3.out rfl (by decide))).mono ?_
    rintro e w4 ⟨r, rfl, r0, r1, hc4, hg4⟩
    have hb4 := below_of_grown hb3 hg4
    clear hc4 hg4
    go_wp2_with fail
    go_ret2
    exact ⟨x, r, rfl, hx, r0, r1, hb4⟩
set_option maxRecDepth 100000 in
set_option maxHeartbeats 8000000 in
theorem nearest (A : Option Addr) (n c : Nat) (w : World) (hn : n ≤ 65536) (h : Bytes w w.heap.size A n) :
    Calls Tryd.prog 26 #[.slice A n c] w (ListBits w) := by
  obtain ⟨i0, hi, hz0, hz1, hz2⟩ := info_parts infoS3
  have hc := new_cur c (by omega) h
  have hb0 : Below w.heap.size w (w.alloc (.cells #[.slice A n c, .int .i64 0, .int .u64 0] 65)) := (Below.refl _ _).alloc (Nat.le_refl _) _
  have hb1 := hb0.alloc hb0.size (.cells #[] 9)
  have ho1 := own_.own_empty (w.alloc (.cells #[.slice A n c, .int .i64 0, .int .u64 0] 65)) 9
  rw [World.size_alloc] at ho1
  have hc1 := Lib.hid (hc.keep ((Below.refl (w.heap.size + 1) _).alloc (by simp) (.cells #[] 9)))
  clear h hc hb0
  go_enter Tryd.func26, Tryd.ntmps26
  go_wp2_with fail
  refine (pick _ 0 6 _ hc1.out (by omega) (by omega) (by omega)).mono ?_
  rintro e w1 ⟨r, rfl, r0, r1, hc2, hg1⟩
  obtain ⟨m, rfl⟩ := Int.eq_ofNat_of_zero_le r0
  have hm5 : m ≤ 5 := by omega
  have hb2 := below_of_grown hb1 hg1
  have ho2 := ho1.kept hg1 (.inr (by simp [Value.ownBlock]))
  clear hb1 ho1 hc1 hg1 r0 r1
  have HC := Lib.hid hc2
  clear hc2
  go_wp2_with fail
  go_loopw [5, 6] (fun l i wr => ∃ (k : Nat) (xs : List ByteArray), i = .int .i64 k ∧ xs.length + k = m ∧ weight xs ≤ 10 * xs.length ∧ wr.ownsRow (w.heap.size + 1) 9 1 l xs.length (xs.map Value.string) ∧ Below w.heap.size w wr ∧ w.heap.size + 1 ≤ wr.heap.size ∧ Hid (Cur wr w.heap.size (2 + 4 * xs.length)))
    (fun _ i _ => (intOf i).toNat)
  case atStart => exact ⟨m, [], rfl, Nat.zero_add _, Nat.le_refl _, ho2, hb2, by have := HC.out.lt; omega, HC⟩
  case round =>
    obtain ⟨k, xs, rfl, hxk, hw, hown, hb, hsz, HC2⟩ := hrel
    clear ho2 hb2 HC
    by_cases hlt : 0 < k
    · have hlt2 : (0 : Int) < (k : Int) := by omega
      go_wp2_with fail
      refine (flightName _ _ _ HC2.out (by omega)).mono ?_
      rintro e w2 ⟨x, rfl, hx, hc3, hg2⟩
      have hb3 := below_of_grown hb hg2
      have ho3 := own_keep hown hg2 (Nat.lt_succ_self _)
      have hsz2 := Nat.le_trans hsz hg2.size
      clear hown hb hg2 HC2 hsz
      have HC4 := Lib.hid hc3
      clear hc3
      go_wp2_with (at_builtin; refine wpList_append_own _ rfl (.tmp 19) (.tmp 22) 38 rfl (w.heap.size + 1) 9 i0 (.string ⟨#[]⟩) 1 16 Tryd.underlying38 hi hz0 hz1 hz2 rfl (by decide) _ xs.length (xs.map Value.string) rfl (ho3.alloc _) ⟨w2.heap.size, 0, none⟩ 1 1 [.string x] rfl rfl (cell_one_new _ _ _) (own_.one_cell _ rfl) (by unfold maxLen; omega) (by omega) (by simp; omega) ?_; intro v' w3 hown' hgrow hnil)
      have ho : w3.ownsRow (w.heap.size + 1) 9 1 v' (xs ++ [x]).length ((xs ++ [x]).map Value.string) := by simpa using hown'
      have hbA := own_.below_append (B := w.heap.size + 1) (Below.refl _ w2) ho3 hsz2 hgrow
      have hb4 := own_.below_append hb3 (own_.own_base ho3 (B := w.heap.size) (by omega)) hb3.size hgrow
      have HC5 := Lib.hid ((HC4.out.keep hbA).more (m' := 2 + 4 * (xs ++ [x]).length) (by simp; omega))
      have hsz3 := Nat.le_trans hsz2 hbA.size
      clear hown' hgrow hnil HC4 hbA
      go_roundw
      case rel => exact ⟨k - 1, xs ++ [x], by go_num, by simp; omega, by rw [weight_snoc]; simp; omega, ho, hb4, hsz3, HC5⟩
      case measure => simp [intOf]; omega
    · have hle : (k : Int) ≤ 0 := by omega
      have hxl : xs.length ≤ 5 := by omega
      have HWt := Lib.hid (show weight xs ≤ 100 by omega)
      have HXt := Lib.hid hxl
      have HC3 := Lib.hid (HC2.out.more (m' := 40) (by omega))
      clear hw hxk HC2
      by_cases hz : xs.length = 0
      · have HCt := HC3
        have hbt := hb
        have hot := hown
        have hst := hsz
        obtain ⟨la, lc, rfl⟩ : ∃ la lc, u5 = .slice la 0 lc := by
          rcases hown.2 with ⟨rfl, _⟩ | ⟨g, cap, cur, rfl, _⟩
          · exact ⟨_, _, rfl⟩
          · exact ⟨_, _, by rw [hz]⟩
        clear hb hown hsz HC3 hxl
        go_wp2_with fail
        refine (one _ _ 4 _ HCt.out (by omega) (by omega) (by omega)).mono ?_
        rintro e wu ⟨bu, rfl, hcu, hgu⟩
        have hbu := below_of_grown hbt hgu
        have hou := own_keep hot hgu (Nat.lt_succ_self _)
        have hsu := Nat.le_trans hst hgu.size
        clear hot hbt hgu hst
        have HCu := Lib.hid hcu
        clear hcu HCt
        cases bu
        · have HCA := HCu
          have hbA := hbu
          have hoA := hou
          have HXA := Lib.hid (show xs.length ≤ 30 by have := HXt.out; omega)
          have HWA := Lib.hid (show weight xs ≤ 5000 by have := HWt.out; omega)
          clear hbu hou HXt HWt HCu
          go_wp2_with fail
          refine (anyBits _ _ 48 _ HCA.out (by omega) (by omega)).mono ?_
          rintro e wz ⟨y, rfl, hy, hcz, hgz⟩
          have hy2 : y.size ≤ 65 := hy
          have hbz := below_of_grown hbA hgz
          have hoz := own_keep hoA hgz (Nat.lt_succ_self _)
          have hlz := HXA.out
          have hwz := HWA.out
          clear hbA hoA hgz hcz hy
          go_wp2_with fail
          go_ret2
          exact ⟨_, xs, y, rfl, own_.own_base hoz (by omega), hwz, hlz, by omega, hbz⟩
        · go_wp2_with fail
          go_loopw [5] (fun l wr => ∃ (xs : List ByteArray), xs.length ≤ 21 ∧ weight xs ≤ 100 + 30 * xs.length ∧ wr.ownsRow (w.heap.size + 1) 9 1 l xs.length (xs.map Value.string) ∧ Below w.heap.size w wr ∧ w.heap.size + 1 ≤ wr.heap.size ∧ Hid (Cur wr w.heap.size (100 + 2 * xs.length)))
            (fun l _ => 21 - namp.lenOf l)
          case atStart => exact ⟨xs, by have := HXt.out; omega, by have := HWt.out; omega, hou, hbu, hsu, Lib.hid (HCu.out.more (by omega))⟩
          case round =>
            obtain ⟨xs, hx21, hw, hown, hb, hsz, HC2⟩ := hrel
            clear hou hbu hsu HCu HXt HWt
            obtain ⟨la, lc, rfl⟩ : ∃ la lc, u5 = .slice la xs.length lc := by
              rcases hown.2 with ⟨rfl, h0⟩ | ⟨g, cap, cur, rfl, _⟩
              · exact ⟨_, _, by rw [h0]⟩
              · exact ⟨_, _, rfl⟩
            go_wp2_with fail
            refine (pick _ _ 2 _ HC2.out (by omega) (by omega) (by omega)).mono ?_
            rintro e w2 ⟨r, rfl, r0, r1, hc3, hg2⟩
            have hb3 := below_of_grown hb hg2
            have ho3 := own_keep hown hg2 (Nat.lt_succ_self _)
            have hsz2 := Nat.le_trans hsz hg2.size
            clear hown hb hg2 HC2 hsz
            have HC4 := Lib.hid hc3
            clear hc3
            by_cases hlt : (xs.length : Int) < 20 + r
            · have HQ := Lib.hid (num.num_any (xs.length : Int) w2 (by omega) (by omega) (by omega))
              have hts := num.txt_size (xs.length : Int) (by omega) (by omega)
              generalize num.txt (xs.length : Int) = tx at *
              go_wp2_with fail
              refine HQ.out.mono ?_
              rintro e w3 ⟨rfl, j3, rfl⟩
              have hb4 := aid.below_drewN hb3 j3
              have ho4 := own_.own_drewN ho3 j3
              have hsz4 : w.heap.size + 1 ≤ (w2.drewN j3).heap.size := hsz2
              have HC5 := Lib.hid (HC4.out.keep (aid.below_drewN (Below.refl (w.heap.size + 1) w2) j3))
              clear hb3 ho3 hsz2 HC4 HQ
              generalize w2.drewN j3 = w4 at *
              have hax : (({ data := #[65] } : ByteArray) ++ tx).size ≤ 25 := by
                rw [ByteArray.size_append]
                have : ({ data := #[65] } : ByteArray).size = 1 := rfl
                omega
              go_wp2_with (at_builtin; refine wpList_append_own _ rfl (.tmp 62) (.tmp 67) 38 rfl (w.heap.size + 1) 9 i0 (.string ⟨#[]⟩) 1 16 Tryd.underlying38 hi hz0 hz1 hz2 rfl (by decide) _ xs.length (xs.map Value.string) rfl (ho4.alloc _) ⟨w4.heap.size, 0, none⟩ 1 1 [.string (({ data := #[65] } : ByteArray) ++ tx)] rfl rfl (cell_one_new _ _ _) (own_.one_cell _ rfl) (by unfold maxLen; omega) (by omega) (by simp; omega) ?_; intro v' w5 hown' hgrow hnil)
              generalize ({ data := #[65] } : ByteArray) ++ tx = ax at *
              have ho : w5.ownsRow (w.heap.size + 1) 9 1 v' (xs ++ [ax]).length ((xs ++ [ax]).map Value.string) := by simpa using hown'
              have hlv : namp.lenOf v' = xs.length + 1 := by
                rcases hown'.2 with ⟨_, h0⟩ | ⟨g, cap, cur, h, _⟩
                · simp at h0
                · rw [h]; simp [namp.lenOf]
              have hbA := own_.below_append (B := w.heap.size + 1) (Below.refl _ w4) ho4 hsz4 hgrow
              have hb5 := own_.below_append hb4 (own_.own_base ho4 (B := w.heap.size) (by omega)) hb4.size hgrow
              have HC6 := Lib.hid ((HC5.out.keep hbA).more (m' := 100 + 2 * (xs ++ [ax]).length) (by simp; omega))
              have hsz5 := Nat.le_trans hsz4 hbA.size
              clear hown' hgrow hnil HC5 hbA hb4 ho4 hsz4
              go_roundw
              case rel => exact ⟨xs ++ [ax], by simp; omega, by rw [weight_snoc]; simp; omega, ho, hb5, hsz5, HC6⟩
              case measure => show 21 - namp.lenOf v' < 21 - xs.length; rw [hlv]; omega
            · have hle : 20 + r ≤ (xs.length : Int) := by omega
              have HCA := HC4
              have hbA := hb3
              have hoA := ho3
              have HXA := Lib.hid (show xs.length ≤ 30 by omega)
              have HWA := Lib.hid (show weight xs ≤ 5000 by omega)
              clear hb3 ho3 HC4 hlt hw
              go_wp2_with fail
              refine (anyBits _ _ 48 _ HCA.out (by omega) (by omega)).mono ?_
              rintro e wz ⟨y, rfl, hy, hcz, hgz⟩
              have hy2 : y.size ≤ 65 := hy
              have hbz := below_of_grown hbA hgz
              have hoz := own_keep hoA hgz (Nat.lt_succ_self _)
              have hlz := HXA.out
              have hwz := HWA.out
              clear hbA hoA hgz hcz hy
              go_wp2_with fail
              go_ret2
              exact ⟨_, xs, y, rfl, own_.own_base hoz (by omega), hwz, hlz, by omega, hbz⟩
      · have hpos : 0 < xs.length := by omega
        obtain ⟨x, hx0⟩ : ∃ x, xs[0]? = some x := ⟨_, List.getElem?_eq_getElem hpos⟩
        have hxs : x.size ≤ 100 := Nat.le_trans (size_weight (List.mem_of_getElem? hx0)) HWt.out
        obtain ⟨g, cap, rfl, hge⟩ : ∃ g cap, u5 = .slice (some ⟨g, 0, none⟩) xs.length cap ∧ w.heap.size + 1 ≤ g := by
          rcases hown.2 with ⟨_, h0⟩ | ⟨g, cap, cur, rfl, hge, _⟩
          · omega
          · exact ⟨g, cap, rfl, hge⟩
        have hcell := hown.cells (g := g) rfl 0 (.string x) (by rw [List.getElem?_map, hx0]; rfl)
        rw [Addr.add_lit, Nat.zero_add] at hcell
        have HN := Lib.hid (fun w => nams.name x w (by unfold maxLen; omega))
        have HX0 := Lib.hid hx0
        clear hx0 hz hxl
        cases hnm : nmB x
        · rw [hnm] at HN
          clear hnm
          go_wp2_with fail
          refine (HN.out _).mono ?_
          rintro e w2 ⟨rfl, rfl⟩
          have HCt := HC3
          have hbt := hb
          have hot := hown
          have hst := hsz
          clear hb hown hsz HC3
          go_wp2_with fail
          refine (one _ _ 4 _ HCt.out (by omega) (by omega) (by omega)).mono ?_
          rintro e wu ⟨bu, rfl, hcu, hgu⟩
          have hbu := below_of_grown hbt hgu
          have hou := own_keep hot hgu (Nat.lt_succ_self _)
          have hsu := Nat.le_trans hst hgu.size
          clear hot hbt hgu hst
          have HCu := Lib.hid hcu
          clear hcu HCt
          cases bu
          · have HCA := HCu
            have hbA := hbu
            have hoA := hou
            have HXA := Lib.hid (show xs.length ≤ 30 by have := HXt.out; omega)
            have HWA := Lib.hid (show weight xs ≤ 5000 by have := HWt.out; omega)
            clear hbu hou HXt HWt HCu
            go_wp2_with fail
            refine (anyBits _ _ 48 _ HCA.out (by omega) (by omega)).mono ?_
            rintro e wz ⟨y, rfl, hy, hcz, hgz⟩
            have hy2 : y.size ≤ 65 := hy
            have hbz := below_of_grown hbA hgz
            have hoz := own_keep hoA hgz (Nat.lt_succ_self _)
            have hlz := HXA.out
            have hwz := HWA.out
            clear hbA hoA hgz hcz hy
            go_wp2_with fail
            go_ret2
            exact ⟨_, xs, y, rfl, own_.own_base hoz (by omega), hwz, hlz, by omega, hbz⟩
          · go_wp2_with fail
            go_loopw [5] (fun l wr => ∃ (xs : List ByteArray), xs.length ≤ 21 ∧ weight xs ≤ 100 + 30 * xs.length ∧ wr.ownsRow (w.heap.size + 1) 9 1 l xs.length (xs.map Value.string) ∧ Below w.heap.size w wr ∧ w.heap.size + 1 ≤ wr.heap.size ∧ Hid (Cur wr w.heap.size (100 + 2 * xs.length)))
              (fun l _ => 21 - namp.lenOf l)
            case atStart => exact ⟨xs, by have := HXt.out; omega, by have := HWt.out; omega, hou, hbu, hsu, Lib.hid (HCu.out.more (by omega))⟩
            case round =>
              obtain ⟨xs, hx21, hw, hown, hb, hsz, HC2⟩ := hrel
              clear hou hbu hsu HCu HXt HWt
              obtain ⟨la, lc, rfl⟩ : ∃ la lc, u5 = .slice la xs.length lc := by
                rcases hown.2 with ⟨rfl, h0⟩ | ⟨g, cap, cur, rfl, _⟩
                · exact ⟨_, _, by rw [h0]⟩
                · exact ⟨_, _, rfl⟩
              go_wp2_with fail
              refine (pick _ _ 2 _ HC2.out (by omega) (by omega) (by omega)).mono ?_
              rintro e w2 ⟨r, rfl, r0, r1, hc3, hg2⟩
              have hb3 := below_of_grown hb hg2
              have ho3 := own_keep hown hg2 (Nat.lt_succ_self _)
              have hsz2 := Nat.le_trans hsz hg2.size
              clear hown hb hg2 HC2 hsz
              have HC4 := Lib.hid hc3
              clear hc3
              by_cases hlt : (xs.length : Int) < 20 + r
              · have HQ := Lib.hid (num.num_any (xs.length : Int) w2 (by omega) (by omega) (by omega))
                have hts := num.txt_size (xs.length : Int) (by omega) (by omega)
                generalize num.txt (xs.length : Int) = tx at *
                go_wp2_with fail
                refine HQ.out.mono ?_
                rintro e w3 ⟨rfl, j3, rfl⟩
                have hb4 := aid.below_drewN hb3 j3
                have ho4 := own_.own_drewN ho3 j3
                have hsz4 : w.heap.size + 1 ≤ (w2.drewN j3).heap.size := hsz2
                have HC5 := Lib.hid (HC4.out.keep (aid.below_drewN (Below.refl (w.heap.size + 1) w2) j3))
                clear hb3 ho3 hsz2 HC4 HQ
                generalize w2.drewN j3 = w4 at *
                have hax : (({ data := #[65] } : ByteArray) ++ tx).size ≤ 25 := by
                  rw [ByteArray.size_append]
                  have : ({ data := #[65] } : ByteArray).size = 1 := rfl
                  omega
                go_wp2_with (at_builtin; refine wpList_append_own _ rfl (.tmp 62) (.tmp 67) 38 rfl (w.heap.size + 1) 9 i0 (.string ⟨#[]⟩) 1 16 Tryd.underlying38 hi hz0 hz1 hz2 rfl (by decide) _ xs.length (xs.map Value.string) rfl (ho4.alloc _) ⟨w4.heap.size, 0, none⟩ 1 1 [.string (({ data := #[65] } : ByteArray) ++ tx)] rfl rfl (cell_one_new _ _ _) (own_.one_cell _ rfl) (by unfold maxLen; omega) (by omega) (by simp; omega) ?_; intro v' w5 hown' hgrow hnil)
                generalize ({ data := #[65] } : ByteArray) ++ tx = ax at *
                have ho : w5.ownsRow (w.heap.size + 1) 9 1 v' (xs ++ [ax]).length ((xs ++ [ax]).map Value.string) := by simpa using hown'
                have hlv : namp.lenOf v' = xs.length + 1 := by
                  rcases hown'.2 with ⟨_, h0⟩ | ⟨g, cap, cur, h, _⟩
                  · simp at h0
                  · rw [h]; simp [namp.lenOf]
                have hbA := own_.below_append (B := w.heap.size + 1) (Below.refl _ w4) ho4 hsz4 hgrow
                have hb5 := own_.below_append hb4 (own_.own_base ho4 (B := w.heap.size) (by omega)) hb4.size hgrow
                have HC6 := Lib.hid ((HC5.out.keep hbA).more (m' := 100 + 2 * (xs ++ [ax]).length) (by simp; omega))
                have hsz5 := Nat.le_trans hsz4 hbA.size
                clear hown' hgrow hnil HC5 hbA hb4 ho4 hsz4
                go_roundw
                case rel => exact ⟨xs ++ [ax], by simp; omega, by rw [weight_snoc]; simp; omega, ho, hb5, hsz5, HC6⟩
                case measure => show 21 - namp.lenOf v' < 21 - xs.length; rw [hlv]; omega
              · have hle : 20 + r ≤ (xs.length : Int) := by omega
                have HCA := HC4
                have hbA := hb3
                have hoA := ho3
                have HXA := Lib.hid (show xs.length ≤ 30 by omega)
                have HWA := Lib.hid (show weight xs ≤ 5000 by omega)
                clear hb3 ho3 HC4 hlt hw
                go_wp2_with fail
                refine (anyBits _ _ 48 _ HCA.out (by omega) (by omega)).mono ?_
                rintro e wz ⟨y, rfl, hy, hcz, hgz⟩
                have hy2 : y.size ≤ 65 := hy
                have hbz := below_of_grown hbA hgz
                have hoz := own_keep hoA hgz (Nat.lt_succ_self _)
                have hlz := HXA.out
                have hwz := HWA.out
                clear hbA hoA hgz hcz hy
                go_wp2_with fail
                go_ret2
                exact ⟨_, xs, y, rfl, own_.own_base hoz (by omega), hwz, hlz, by omega, hbz⟩
        · have HB := Lib.hid (fun w => nams.bits x w hnm)
          rw [hnm] at HN
          clear hnm
          have ht48 : (nbA x).size = 48 := nbA_size x
          generalize nbA x = t at *
          go_wp2_with fail
          refine (HN.out _).mono ?_
          rintro e w2 ⟨rfl, rfl⟩
          go_wp2_with fail
          refine (one _ _ 4 _ HC3.out (by omega) (by omega) (by omega)).mono ?_
          rintro e w2 ⟨b, rfl, hc3, hg2⟩
          have hb3 := below_of_grown hb hg2
          have ho3 := hown.kept hg2 (.inr (by simp [Value.ownBlock]; omega))
          have hsz2 := Nat.le_trans hsz hg2.size
          clear hown hb hg2 HC3 hsz hcell
          have HC4 := Lib.hid hc3
          clear hc3
          cases b
          · have hcell := ho3.cells (g := g) rfl 0 (.string x) (by rw [List.getElem?_map, HX0.out]; rfl)
            rw [Addr.add_lit, Nat.zero_add] at hcell
            go_wp2_with fail
            refine (HB.out _).mono ?_
            rintro e w3 ⟨rfl, rfl⟩
            clear hcell
            go_wp2_with fail
            refine (pick _ _ 4 _ HC4.out (by omega) (by omega) (by omega)).mono ?_
            rintro e w3 ⟨r, rfl, r0, r1, hc5, hg3⟩
            obtain ⟨m2, rfl⟩ := Int.eq_ofNat_of_zero_le r0
            have hm2 : m2 ≤ 3 := by omega
            have hb4 := below_of_grown hb3 hg3
            have ho4 := ho3.kept hg3 (.inr (by simp [Value.ownBlock]; omega))
            have hsz3 := Nat.le_trans hsz2 hg3.size
            have HC6 := Lib.hid (hc5.more (m' := 100) (by omega))
            clear ho3 hb3 hg3 hsz2 HC4 hc5 r0 r1
            go_wp2_with fail
            go_loopw [7, 8] (fun z i wr => ∃ (k j : Nat) (t : ByteArray), i = .int .i64 k ∧ z = .string t ∧ j + k = m2 ∧ t.size = 48 ∧ wr.ownsRow (w.heap.size + 1) 9 1 (.slice (some ⟨g, 0, none⟩) xs.length cap) xs.length (xs.map Value.string) ∧ Below w.heap.size w wr ∧ w.heap.size + 1 ≤ wr.heap.size ∧ Hid (Cur wr w.heap.size (100 + 2 * j)))
              (fun _ i _ => (intOf i).toNat)
            case atStart => exact ⟨m2, 0, t, rfl, rfl, Nat.zero_add _, ht48, ho4, hb4, hsz3, HC6⟩
            case round =>
              obtain ⟨k2, j2, t2, rfl, rfl, hjk, ht2, hown, hb, hsz, HC7⟩ := hrel
              have HT2 := Lib.hid ht2
              clear ho4 hb4 hsz3 HC6 ht2
              by_cases hlt : 0 < k2
              · have hlt2 : (0 : Int) < (k2 : Int) := by omega
                go_wp2_with fail
                refine (pick _ _ 48 _ HC7.out (by omega) (by omega) (by omega)).mono ?_
                rintro e w4 ⟨q, rfl, q0, q1, hc8, hg4⟩
                have hb5 := below_of_grown hb hg4
                have ho5 := hown.kept hg4 (.inr (by simp [Value.ownBlock]; omega))
                have hsz4 := Nat.le_trans hsz hg4.size
                have HC8 := Lib.hid hc8
                clear hb hown hsz hg4 hc8 HC7
                obtain ⟨i, rfl⟩ := Int.eq_ofNat_of_zero_le q0
                have HF := Lib.hid (fun w => flipN t2 i w (by have := HT2.out; omega) (by have := HT2.out; omega))
                have HS := Lib.hid (show (flipT t2 i).size = 48 by rw [flip_size t2 i (by have := HT2.out; omega), HT2.out])
                generalize flipT t2 i = u at *
                go_wp2_with fail
                refine (HF.out _).mono ?_
                rintro e w5 ⟨rfl, j5, rfl⟩
                have hb6 := aid.below_drewN hb5 j5
                have ho6 := own_.own_drewN ho5 j5
                have hsz5 : w.heap.size + 1 ≤ (w4.drewN j5).heap.size := hsz4
                have HC9 := Lib.hid ((HC8.out.keep (aid.below_drewN (Below.refl (w.heap.size + 1) w4) j5)).more (m' := 100 + 2 * (j2 + 1)) (by omega))
                clear hb5 ho5 hsz4 HC8 HF
                generalize w4.drewN j5 = w6 at *
                go_wp2_with fail
                go_roundw
                case rel => exact ⟨k2 - 1, j2 + 1, u, by go_num, rfl, by omega, HS.out, ho6, hb6, hsz5, HC9⟩
                case measure => simp [intOf]; omega
              · have hle : (k2 : Int) ≤ 0 := by omega
                have hlz : xs.length ≤ 30 := by have := HXt.out; omega
                have hwz : weight xs ≤ 5000 := by have := HWt.out; omega
                go_wp2_with fail
                go_ret2
                exact ⟨_, xs, t2, rfl, own_.own_base hown (by omega), hwz, hlz, by have := HT2.out; omega, hb⟩
          · have HCt := Lib.hid (HC4.out.more (m' := 60) (by omega))
            have hbt := hb3
            have hot := ho3
            have hst := hsz2
            clear hb3 ho3 hsz2 HC4 ht48
            go_wp2_with fail
            refine (one _ _ 4 _ HCt.out (by omega) (by omega) (by omega)).mono ?_
            rintro e wu ⟨bu, rfl, hcu, hgu⟩
            have hbu := below_of_grown hbt hgu
            have hou := own_keep hot hgu (Nat.lt_succ_self _)
            have hsu := Nat.le_trans hst hgu.size
            clear hot hbt hgu hst
            have HCu := Lib.hid hcu
            clear hcu HCt
            cases bu
            · have HCA := HCu
              have hbA := hbu
              have hoA := hou
              have HXA := Lib.hid (show xs.length ≤ 30 by have := HXt.out; omega)
              have HWA := Lib.hid (show weight xs ≤ 5000 by have := HWt.out; omega)
              clear hbu hou HXt HWt HCu
              go_wp2_with fail
              refine (anyBits _ _ 48 _ HCA.out (by omega) (by omega)).mono ?_
              rintro e wz ⟨y, rfl, hy, hcz, hgz⟩
              have hy2 : y.size ≤ 65 := hy
              have hbz := below_of_grown hbA hgz
              have hoz := own_keep hoA hgz (Nat.lt_succ_self _)
              have hlz := HXA.out
              have hwz := HWA.out
              clear hbA hoA hgz hcz hy
              go_wp2_with fail
              go_ret2
              exact ⟨_, xs, y, rfl, own_.own_base hoz (by omega), hwz, hlz, by omega, hbz⟩
            · go_wp2_with fail
              go_loopw [5] (fun l wr => ∃ (xs : List ByteArray), xs.length ≤ 21 ∧ weight xs ≤ 100 + 30 * xs.length ∧ wr.ownsRow (w.heap.size + 1) 9 1 l xs.length (xs.map Value.string) ∧ Below w.heap.size w wr ∧ w.heap.size + 1 ≤ wr.heap.size ∧ Hid (Cur wr w.heap.size (100 + 2 * xs.length)))
                (fun l _ => 21 - namp.lenOf l)
              case atStart => exact ⟨xs, by have := HXt.out; omega, by have := HWt.out; omega, hou, hbu, hsu, Lib.hid (HCu.out.more (by omega))⟩
              case round =>
                obtain ⟨xs, hx21, hw, hown, hb, hsz, HC2⟩ := hrel
                clear hou hbu hsu HCu HXt HWt
                obtain ⟨la, lc, rfl⟩ : ∃ la lc, u5 = .slice la xs.length lc := by
                  rcases hown.2 with ⟨rfl, h0⟩ | ⟨g, cap, cur, rfl, _⟩
                  · exact ⟨_, _, by rw [h0]⟩
                  · exact ⟨_, _, rfl⟩
                go_wp2_with fail
                refine (pick _ _ 2 _ HC2.out (by omega) (by omega) (by omega)).mono ?_
                rintro e w2 ⟨r, rfl, r0, r1, hc3, hg2⟩
                have hb3 := below_of_grown hb hg2
                have ho3 := own_keep hown hg2 (Nat.lt_succ_self _)
                have hsz2 := Nat.le_trans hsz hg2.size
                clear hown hb hg2 HC2 hsz
                have HC4 := Lib.hid hc3
                clear hc3
                by_cases hlt : (xs.length : Int) < 20 + r
                · have HQ := Lib.hid (num.num_any (xs.length : Int) w2 (by omega) (by omega) (by omega))
                  have hts := num.txt_size (xs.length : Int) (by omega) (by omega)
                  generalize num.txt (xs.length : Int) = tx at *
                  go_wp2_with fail
                  refine HQ.out.mono ?_
                  rintro e w3 ⟨rfl, j3, rfl⟩
                  have hb4 := aid.below_drewN hb3 j3
                  have ho4 := own_.own_drewN ho3 j3
                  have hsz4 : w.heap.size + 1 ≤ (w2.drewN j3).heap.size := hsz2
                  have HC5 := Lib.hid (HC4.out.keep (aid.below_drewN (Below.refl (w.heap.size + 1) w2) j3))
                  clear hb3 ho3 hsz2 HC4 HQ
                  generalize w2.drewN j3 = w4 at *
                  have hax : (({ data := #[65] } : ByteArray) ++ tx).size ≤ 25 := by
                    rw [ByteArray.size_append]
                    have : ({ data := #[65] } : ByteArray).size = 1 := rfl
                    omega
                  go_wp2_with (at_builtin; refine wpList_append_own _ rfl (.tmp 62) (.tmp 67) 38 rfl (w.heap.size + 1) 9 i0 (.string ⟨#[]⟩) 1 16 Tryd.underlying38 hi hz0 hz1 hz2 rfl (by decide) _ xs.length (xs.map Value.string) rfl (ho4.alloc _) ⟨w4.heap.size, 0, none⟩ 1 1 [.string (({ data := #[65] } : ByteArray) ++ tx)] rfl rfl (cell_one_new _ _ _) (own_.one_cell _ rfl) (by unfold maxLen; omega) (by omega) (by simp; omega) ?_; intro v' w5 hown' hgrow hnil)
                  generalize ({ data := #[65] } : ByteArray) ++ tx = ax at *
                  have ho : w5.ownsRow (w.heap.size + 1) 9 1 v' (xs ++ [ax]).length ((xs ++ [ax]).map Value.string) := by simpa using hown'
                  have hlv : namp.lenOf v' = xs.length + 1 := by
                    rcases hown'.2 with ⟨_, h0⟩ | ⟨g, cap, cur, h, _⟩
                    · simp at h0
                    · rw [h]; simp [namp.lenOf]
                  have hbA := own_.below_append (B := w.heap.size + 1) (Below.refl _ w4) ho4 hsz4 hgrow
                  have hb5 := own_.below_append hb4 (own_.own_base ho4 (B := w.heap.size) (by omega)) hb4.size hgrow
                  have HC6 := Lib.hid ((HC5.out.keep hbA).more (m' := 100 + 2 * (xs ++ [ax]).length) (by simp; omega))
                  have hsz5 := Nat.le_trans hsz4 hbA.size
                  clear hown' hgrow hnil HC5 hbA hb4 ho4 hsz4
                  go_roundw
                  case rel => exact ⟨xs ++ [ax], by simp; omega, by rw [weight_snoc]; simp; omega, ho, hb5, hsz5, HC6⟩
                  case measure => show 21 - namp.lenOf v' < 21 - xs.length; rw [hlv]; omega
                · have hle : 20 + r ≤ (xs.length : Int) := by omega
                  have HCA := HC4
                  have hbA := hb3
                  have hoA := ho3
                  have HXA := Lib.hid (show xs.length ≤ 30 by omega)
                  have HWA := Lib.hid (show weight xs ≤ 5000 by omega)
                  clear hb3 ho3 HC4 hlt hw
                  go_wp2_with fail
                  refine (anyBits _ _ 48 _ HCA.out (by omega) (by omega)).mono ?_
                  rintro e wz ⟨y, rfl, hy, hcz, hgz⟩
                  have hy2 : y.size ≤ 65 := hy
                  have hbz := below_of_grown hbA hgz
                  have hoz := own_keep hoA hgz (Nat.lt_succ_self _)
                  have hlz := HXA.out
                  have hwz := HWA.out
                  clear hbA hoA hgz hcz hy
                  go_wp2_with fail
                  go_ret2
                  exact ⟨_, xs, y, rfl, own_.own_base hoz (by omega), hwz, hlz, by omega, hbz⟩
end Go.Proofs.YtjfhkbpkiblkmaaDoor.drawp
