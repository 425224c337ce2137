/- spec's draws of pairs, of a tolerance, of offsets and times. -/
import Derived.Test.YtndogafihaooiaaDrawS12
import Derived.Test.YtndogafihaooiaaQue
import Derived.Test.YtndogafihaooiaaIntC
namespace Go.Proofs.Ytndogafihaooiaa.drawt12
open Go.RowKit Go.Proofs.Ytndogafihaooiaa.cur Go.Proofs.Ytndogafihaooiaa.atc Go.Proofs.Ytndogafihaooiaa.ats Go.Proofs.Ytndogafihaooiaa.ints Go.Proofs.Ytndogafihaooiaa.lst Go.Proofs.Ytndogafihaooiaa.code_ Go.Proofs.Ytndogafihaooiaa.draws12 Go.Proofs.Ytndogafihaooiaa.que

/-- 'among' at the head of a list that was written out before. -/
theorem among_old (lo hi : Int) (p m n N b : Nat) (xs : List Int) (cs : Array Value) (w w2 : World) (h2 : Cur w2 p m) (hm : m ≤ 900000) (hg : (w.alloc (.cells cs 3)).grownBy w2 (some p)) (hb : w.heap.size = b) (hp : p < w.heap.size)
    (hcs : cs.toList = xs.map (Value.int .i64)) (hl : xs.length = N) (hn : 1 ≤ n) (hnN : n ≤ N) (hN : N ≤ 60000) (hk : ∀ x ∈ xs, lo ≤ x ∧ x ≤ hi) :
    Calls Try.prog 55 #[.pointer (some ⟨p, 0, none⟩), .slice (some ⟨b, 0, none⟩) n N] w2 (Reads lo hi p (m + 2) w2) := by
  subst hb
  refine among lo hi p m w.heap.size 0 n N (xs.take n) w2 h2 hm hn (by omega) (by rw [List.length_take]; omega) (fun x hx => hk x (List.mem_of_mem_take hx)) (by omega) ?_
  intro j x hx
  have hx2 : xs[j]? = some x := by
    rw [List.getElem?_take] at hx
    split at hx
    · exact hx
    · cases hx
  refine hg.cell (a := ⟨w.heap.size, 0 + j, none⟩) ?_ (fun e => by injection e with e; simp at e; omega)
  rw [Nat.zero_add, cell_of_row _ _ j cs 3 (0, 0) (heap_alloc_new w _)]
  rw [← Array.getElem?_toList, hcs]
  simp [hx2]

def PQ (w : World) (e : Ending) (w' : World) : Prop := ∃ v k zs, e = .returned v ∧ w'.ownsRow w.heap.size 36 2 v k (cellsI zs) ∧ k ≤ 20 ∧ Below w.heap.size w w'
set_option maxRecDepth 100000 in
set_option maxHeartbeats 4000000 in
theorem validPairs (A : Option Addr) (n c : Nat) (w : World) (hn : n ≤ 65536) (h : Bytes w w.heap.size A n) :
    Calls Try.prog 67 #[.slice A n c] w (PQ w) := by
  have HC0 := Lib.hid (new_cur c (by omega) h)
  have B0 := Lib.hid (newS 75 #[.slice A n c, .int .i64 0, .int .u64 0] w)
  have HZ1 := Lib.hid (show w.heap.size < (w.alloc (.cells #[.slice A n c, .int .i64 0, .int .u64 0] 75)).heap.size by rw [World.size_alloc]; omega)
  clear h
  go_enter Try.func67, Try.ntmps67
  go_upto_region 2 with fail
  generalize w.alloc (.cells #[.slice A n c, .int .i64 0, .int .u64 0] 75) = W0 at *
  go_wp2_with fail
  refine (clockPairs _ 0 W0 HC0.out (by omega)).mono ?_
  rintro e w1 ⟨v, k, zs, rfl, ho, hk, hc1, hg1⟩
  have B1 := Lib.hid (below_of_grown B0.out.1 hg1)
  have HC1 := Lib.hid hc1
  have LO1 := Lib.hid ho
  have HZ0 := Lib.hid (show w.heap.size ≤ W0.heap.size by have := HZ1.out; omega)
  have HS1 := Lib.hid hg1.size
  clear ho hc1 hg1 B0 HC0
  go_wp2_with fail
  go_ret
  exact ⟨_, k, zs, rfl, own_.own_base LO1.out HZ0.out, hk, B1.out⟩
theorem driftOf (A : Option Addr) (n c : Nat) (w : World) (hn : n ≤ 65536) (h : Bytes w w.heap.size A n) :
    Calls Try.prog 24 #[.slice A n c] w (PQ w) := by
  have D := Lib.hid (validPairs A n c w hn h)
  clear h
  go_enter Try.func24, Try.ntmps24
  go_wp2_with fail
  refine D.out.mono ?_
  rintro e w1 ⟨v, k, zs, rfl, h1, h2, h3⟩
  go_wp2_with fail
  go_ret
  exact ⟨v, k, zs, rfl, h1, h2, h3⟩

def SQ (w : World) (e : Ending) (w' : World) : Prop := ∃ v k zs t, e = .returned (.tuple #[v, .int .i64 t]) ∧ w'.ownsRow w.heap.size 36 2 v k (cellsI zs) ∧ k ≤ 20 ∧ Below w.heap.size w w'
set_option maxRecDepth 100000 in
set_option maxHeartbeats 4000000 in
theorem steadyClock (A : Option Addr) (n c : Nat) (w : World) (hn : n ≤ 65536) (h : Bytes w w.heap.size A n) :
    Calls Try.prog 15 #[.slice A n c] w (SQ w) := by
  have HC0 := Lib.hid (new_cur c (by omega) h)
  have B0 := Lib.hid (newS 75 #[.slice A n c, .int .i64 0, .int .u64 0] w)
  have HZ1 := Lib.hid (show w.heap.size < (w.alloc (.cells #[.slice A n c, .int .i64 0, .int .u64 0] 75)).heap.size by rw [World.size_alloc]; omega)
  clear h
  go_enter Try.func15, Try.ntmps15
  go_upto_region 2 with fail
  generalize w.alloc (.cells #[.slice A n c, .int .i64 0, .int .u64 0] 75) = W0 at *
  go_wp2_with fail
  refine (clockPairs _ 0 W0 HC0.out (by omega)).mono ?_
  rintro e w1 ⟨v, k, zs, rfl, ho, hk, hc1, hg1⟩
  have B1 := Lib.hid (below_of_grown B0.out.1 hg1)
  have HC1 := Lib.hid hc1
  have LO1 := Lib.hid ho
  have HZ0 := Lib.hid (show w.heap.size ≤ W0.heap.size by have := HZ1.out; omega)
  have HS1 := Lib.hid hg1.size
  clear ho hc1 hg1 B0 HC0
  have BW7 := Lib.hid (show ∀ x ∈ ([0, 1, 2, 8, 1000000, -1, 1000001] : List Int), -1 ≤ x ∧ x ≤ 1000001 by decide)
  go_wp2_with fail
  refine (pick w.heap.size _ 24 (w1.alloc (.cells #[.int .i64 0, .int .i64 1, .int .i64 2, .int .i64 8, .int .i64 1000000, .int .i64 (-1), .int .i64 1000001] 3)) (Cur.alloc HC1.out (.cells #[.int .i64 0, .int .i64 1, .int .i64 2, .int .i64 8, .int .i64 1000000, .int .i64 (-1), .int .i64 1000001] 3)) (by omega) (by omega) (by omega)).mono ?_
  rintro e w2 ⟨r, rfl, r0, r1, hc2, hg2⟩
  obtain ⟨rn, rfl⟩ := Int.eq_ofNat_of_zero_le r0
  obtain ⟨q, hq⟩ : ∃ q, q = rn / 11 := ⟨_, rfl⟩
  have q1 : (rn : Int).tdiv 11 = (q : Int) := by rw [hq]; rfl
  have e1 : IntKind.i64.wrap ((rn : Int).tdiv 11) = (q : Int) := by rw [q1, IntWalk.i64_in _ (by omega)]
  have e2 : IntKind.i64.wrap (5 + (q : Int)) = ((5 + q : Nat) : Int) := by rw [IntWalk.i64_in _ (by omega)]; omega
  have hq7 : 5 + rn / 11 ≤ 7 := by omega
  have hq7i : ((5 + q : Nat) : Int) ≤ 7 := by omega
  have hq0i : (0 : Int) ≤ ((5 + q : Nat) : Int) := Int.natCast_nonneg _
  have HG2 := Lib.hid hg2
  have HC2 := Lib.hid hc2
  have HP := Lib.hid (show w.heap.size < w1.heap.size by have := HZ1.out; have := HS1.out; omega)
  have B2 := Lib.hid (below_of_grown B1.out (grown_trans (grown_alloc _ _) hg2))
  have LO2 := Lib.hid (own_kept LO1.out (grown_trans (grown_alloc (.cells #[.int .i64 0, .int .i64 1, .int .i64 2, .int .i64 8, .int .i64 1000000, .int .i64 (-1), .int .i64 1000001] 3) (some w.heap.size)) hg2) (fun g e => by cases e; exact HZ1.out))
  clear hc2 hg2 hq q1
  go_wp2_with fail
  refine (among_old (-1) 1000001 _ _ (5 + rn / 11) 7 _ [0, 1, 2, 8, 1000000, -1, 1000001] _ w1 w2 HC2.out (by omega) HG2.out rfl HP.out rfl rfl (by omega) hq7 (by omega) BW7.out).mono ?_
  rintro e w3 ⟨t, rfl, t0, t1, hc3, hg3⟩
  have LO3 := Lib.hid (own_kept LO2.out hg3 (fun g e => by cases e; exact HZ1.out))
  have B3 := Lib.hid (below_of_grown B2.out hg3)
  clear hc3 hg3
  go_wp2_with fail
  go_ret2
  exact ⟨v, k, zs, t, rfl, own_.own_base LO3.out HZ0.out, hk, B3.out⟩

def HQ (w : World) (e : Ending) (w' : World) : Prop := ∃ (A D : Option Addr) (k c m d : Nat) (xs ys : List Int), e = .returned (.tuple #[.slice A k c, .slice D m d]) ∧ RdI w' w'.heap.size A k xs ∧ RdI w' w'.heap.size D m ys ∧ k ≤ c ∧ m ≤ d ∧ k ≤ 10 ∧ m ≤ 10 ∧ Below w.heap.size w w'
theorem cells_app (xs : List Int) (x : Int) : cellsI xs ++ [.int .i64 x] = cellsI (xs ++ [x]) := by unfold cellsI; rw [List.map_append]; rfl
theorem cells_setI (xs : List Int) (j : Nat) (a : Int) : (cellsI xs).set j (.int .i64 a) = cellsI (xs.set j a) := by unfold cellsI; rw [List.map_set]
theorem own_two {w w' : World} {B e s n c g g2 : Nat} {xs : List Value} (h : w.ownsRow B e s (.slice (some ⟨g, 0, none⟩) n c) n xs) (hg : w.grownBy w' (some g2)) (hne : g ≠ g2) : w'.ownsRow B e s (.slice (some ⟨g, 0, none⟩) n c) n xs :=
  own_kept_at h hg (fun g' e1 e2 => by
    have e1 : some g = some g' := e1
    injection e1 with e1
    injection e2 with e2
    omega)
theorem rd_tail {w : World} {B n c g : Nat} {xs : List Int} (h : w.ownsRow B 3 1 (.slice (some ⟨g, 0, none⟩) (n + 1) c) (n + 1) (cellsI xs)) (A : Option Addr) (hA : 0 < n → A = some ⟨g, 1, none⟩) : RdI w w.heap.size A n (xs.drop 1) := by
  have hl : xs.length = n + 1 := by have := h.1; unfold cellsI at this; simpa using this
  refine ⟨by rw [List.length_drop, hl]; rfl, fun h0 => ⟨g, 1, hA h0, own_lt h, fun j x hx => ?_⟩⟩
  rw [List.getElem?_drop] at hx
  rw [h.cellAt (1 + j) (by have := (List.getElem?_eq_some_iff.1 hx).1; omega)]
  unfold cellsI
  rw [List.getElem?_map, hx]; rfl
theorem own_len1 {w : World} {B e n : Nat} {v : Value} {xs : List Int} (h : w.ownsRow B e 1 v n (cellsI xs)) : xs.length = n := by have := h.1; unfold cellsI at this; simpa using this
set_option maxRecDepth 100000 in
set_option maxHeartbeats 8000000 in
theorem sharedTime (A : Option Addr) (n c : Nat) (w : World) (hn : n ≤ 65536) (h : Bytes w w.heap.size A n) :
    Calls Try.prog 27 #[.slice A n c] w (HQ w) := by
  have HC0 := Lib.hid (new_cur c (by omega) h)
  have B0 := Lib.hid (newS 75 #[.slice A n c, .int .i64 0, .int .u64 0] w)
  have HZ1 := Lib.hid (show w.heap.size < (w.alloc (.cells #[.slice A n c, .int .i64 0, .int .u64 0] 75)).heap.size by rw [World.size_alloc]; omega)
  obtain ⟨i0, hi, hz0, hz1, hz2⟩ := info_parts infoI
  clear h
  go_enter Try.func27, Try.ntmps27
  go_upto_region 2 with fail
  generalize w.alloc (.cells #[.slice A n c, .int .i64 0, .int .u64 0] 75) = W0 at *
  have X1 := Lib.hid (((own_.own_empty W0 3)).alloc (.cells #[] 3))
  have X2 := own_.own_empty (W0.alloc (.cells #[] 3)) 3
  have hs2 := World.size_alloc W0 (.cells #[] 3)
  rw [hs2] at X2
  have X2 := Lib.hid (own_.own_base X2 (Nat.le_succ _))
  have HCX := Lib.hid (Cur.alloc (Cur.alloc HC0.out (.cells #[] 3)) (.cells #[] 3))
  have GX := Lib.hid (show W0.grownBy ((W0.alloc (.cells #[] 3)).alloc (.cells #[] 3)) (some w.heap.size) from grown_trans (grown_alloc _ _) (grown_alloc _ _))
  clear HC0 hs2
  go_upto_region 3 with fail
  generalize (W0.alloc (.cells #[] 3)).alloc (.cells #[] 3) = W2 at *
  go_wp2_with fail
  refine (pick _ _ 6 W2 HCX.out (by omega) (by omega) (by omega)).mono ?_
  rintro e w3 ⟨r, rfl, r0, r1, hc3, hg3⟩
  obtain ⟨q0, rfl⟩ := Int.eq_ofNat_of_zero_le r0
  have e0 : IntKind.i64.wrap (1 + (q0 : Int)) = ((q0 + 1 : Nat) : Int) := by rw [IntWalk.i64_in _ (by omega)]; omega
  have HV := Lib.hid (own_kept X1.out hg3 (fun g e => by cases e; exact HZ1.out))
  have HU := Lib.hid (own_kept X2.out hg3 (fun g e => by cases e; exact HZ1.out))
  have HC := Lib.hid hc3
  have HG := Lib.hid (grown_trans GX.out hg3)
  clear hc3 hg3 X1 X2 HCX GX r0
  go_wp2_with fail
  go_loopw [5, 6, 7] (fun v u nv wr => ∃ (t k g1 g2 c1 c2 : Nat) (xs ys : List Int), t + k ≤ 6 ∧ 1 ≤ t + k ∧ nv = .int .i64 (t : Int) ∧ v = .slice (some ⟨g1, 0, none⟩) k c1 ∧ u = .slice (some ⟨g2, 0, none⟩) k c2 ∧ k ≤ c1 ∧ k ≤ c2 ∧ g1 ≠ g2 ∧ wr.ownsRow W0.heap.size 3 1 (.slice (some ⟨g1, 0, none⟩) k c1) k (cellsI xs) ∧ wr.ownsRow W0.heap.size 3 1 (.slice (some ⟨g2, 0, none⟩) k c2) k (cellsI ys) ∧ Cur wr w.heap.size (20 + 20 * k) ∧ W0.grownBy wr (some w.heap.size)) (fun _ _ nv _ => (intOf nv).toNat)
  case atStart => exact ⟨q0 + 1, 0, W0.heap.size, W0.heap.size + 1, 0, 0, [], [], by omega, by omega, rfl, rfl, rfl, Nat.le_refl _, Nat.le_refl _, by omega, HV.out, HU.out, HC.out.more (by omega), HG.out⟩
  case round =>
    obtain ⟨t, k, g1, g2, c1, c2, xs, ys, ht, ht1, rfl, rfl, rfl, hkc1, hkc2, hne, ho1, ho2, hc, hg⟩ := hrel
    clear HV HU HC HG
    by_cases hlt : 0 < t
    · have hlt2 : (0 : Int) < (t : Int) := by omega
      go_wp2_with fail
      refine (among_new (-7) 100 _ _ 4 [0, 5, -7, 100] _ wr hc (by omega) (by omega) (by omega) rfl rfl (by decide)).mono ?_
      rintro e w4 ⟨a, rfl, a0, a1, hc4, hg4⟩
      have p1 := own_kept ho1 hg4 (fun g e => by cases e; exact HZ1.out)
      have p2 := own_kept ho2 hg4 (fun g e => by cases e; exact HZ1.out)
      have hg5 := grown_trans hg hg4
      have hs5 := hg5.size
      have hbs : W0.heap.size ≤ (w4.alloc (.cells #[.int .i64 a] 3)).heap.size := by rw [World.size_alloc]; omega
      have hl1 := own_lt p1
      have hl2 := own_lt p2
      clear ho1 ho2 hc hg hg4
      go_wp2_with (at_builtin; refine wpList_append_one _ rfl (.tmp 20) (.tmp 24) 38 rfl W0.heap.size 3 i0 (.int .i64 0) Try.underlying38 hi hz0 hz1 hz2 rfl g1 k c1 (cellsI xs) rfl (p1.alloc _) ⟨w4.heap.size, 0, none⟩ 1 (.int .i64 a) rfl ((newS 3 #[.int .i64 a] w4).cell 0) rfl (by omega) hbs ?_; intro g3 c3 w5 b1 b2 b3 b4)
      have hne2 : g3 ≠ g2 := by
        rw [World.size_alloc] at b4
        omega
      have p2b := own_two (p2.alloc (.cells #[.int .i64 a] 3)) b3 (fun h => hne h.symm)
      have hc5 := Lib.hid (cur_append hc4 p1 HZ1.out hs5 b3)
      have hg6 := Lib.hid (grown_append hg5 p1 (Nat.le_refl _) b3)
      rw [cells_app] at b1
      have P1 := Lib.hid b1
      have P2 := Lib.hid p2b
      clear b1 b3 b4 p1 p2 p2b hc4 hg5 hs5 hbs hl1 hl2 hne
      go_wp2_with fail
      refine (among_new (-1) 1000000 _ _ 6 [-1, 0, 50, 53, 1000000, -1] _ w5 hc5.out (by omega) (by omega) (by omega) rfl rfl (by decide)).mono ?_
      rintro e w6 ⟨b, rfl, b0, b1, hc6, hg7⟩
      have p1 := own_kept P1.out hg7 (fun g e => by cases e; exact HZ1.out)
      have p2 := own_kept P2.out hg7 (fun g e => by cases e; exact HZ1.out)
      have hg8 := grown_trans hg6.out hg7
      have hs8 := hg8.size
      have hbs : W0.heap.size ≤ (w6.alloc (.cells #[.int .i64 b] 3)).heap.size := by rw [World.size_alloc]; omega
      have hl1 := own_lt p1
      have hl2 := own_lt p2
      clear P1 P2 hc5 hg6 hg7
      go_wp2_with (at_builtin; refine wpList_append_one _ rfl (.tmp 26) (.tmp 30) 38 rfl W0.heap.size 3 i0 (.int .i64 0) Try.underlying38 hi hz0 hz1 hz2 rfl g2 k c2 (cellsI ys) rfl (p2.alloc _) ⟨w6.heap.size, 0, none⟩ 1 (.int .i64 b) rfl ((newS 3 #[.int .i64 b] w6).cell 0) rfl (by omega) hbs ?_; intro g4 c4 w7 d1 d2 d3 d4)
      have hne3 : g3 ≠ g4 := by
        rw [World.size_alloc] at d4
        omega
      have p1b := own_two (p1.alloc (.cells #[.int .i64 b] 3)) d3 hne2
      have hc7 := Lib.hid (cur_append hc6 p2 HZ1.out hs8 d3)
      have hg9 := Lib.hid (grown_append hg8 p2 (Nat.le_refl _) d3)
      rw [cells_app] at d1
      have P1 := Lib.hid p1b
      have P2 := Lib.hid d1
      have e4 : IntKind.i64.wrap ((t : Int) - 1) = (t : Int) - 1 := IntWalk.i64_in _ (by omega)
      clear d1 d3 d4 p1 p2 p1b hc6 hg8 hs8 hbs hl1 hl2
      go_wp2_with fail
      go_roundw
      case rel => exact ⟨t - 1, k + 1, g3, g4, c3, c4, _, _, by omega, by omega, (by first | rfl | (show Value.int .i64 _ = Value.int .i64 _; congr 1; omega)), rfl, rfl, b2, d2, hne3, P1.out, P2.out, hc7.out.more (by omega), hg9.out⟩
      case measure => simp [intOf]; omega
    · obtain rfl : t = 0 := by omega
      go_wp2_with fail
      refine (pick _ _ 24 wr hc (by omega) (by omega) (by omega)).mono ?_
      rintro e w4 ⟨i, rfl, i0', i1', hc4, hg4⟩
      have p1 := own_kept ho1 hg4 (fun g e => by cases e; exact HZ1.out)
      have p2 := own_kept ho2 hg4 (fun g e => by cases e; exact HZ1.out)
      have hg5 := grown_trans hg hg4
      have HV := Lib.hid p1
      have HU := Lib.hid p2
      have HC := Lib.hid hc4
      have BZ := Lib.hid (below_of_grown B0.out.1 hg5)
      have GE1 := Lib.hid (own_.row_ge p1 g1 rfl)
      have GE2 := Lib.hid (own_.row_ge p2 g2 rfl)
      obtain ⟨l, rfl⟩ : ∃ l, k = l + 1 := ⟨k - 1, by omega⟩
      clear ho1 ho2 hc hg hg4 p1 p2 hg5 hc4
      by_cases h0 : i = 0
      · subst h0
        have s1 : (1 : Int) ≤ ((l + 1 : Nat) : Int) := by omega
        have s2 : ((l + 1 : Nat) : Int) ≤ (c2 : Int) := by omega
        have s3 : l + 1 - 1 = l := by omega
        generalize hm : l + 1 = m at *
        go_wp2_with fail
        · go_ret2
          exact ⟨_, _, _, _, _, _, _, ys.drop 1, rfl, intc.rd_of_own HV.out (own_len1 HV.out), rd_tail (n := l) (by rw [hm]; exact HU.out) _ (fun h => by omega), hkc1, by omega, by omega, by omega, BZ.out⟩
        · go_ret2
          exact ⟨_, _, _, _, _, _, _, ys.drop 1, rfl, intc.rd_of_own HV.out (own_len1 HV.out), rd_tail (n := l) (by rw [hm]; exact HU.out) _ (fun _ => rfl), hkc1, by omega, by omega, by omega, BZ.out⟩
      have d0 : (i == 0) = false := by simpa using h0
      by_cases h1 : i = 1
      · subst h1
        go_wp2_with fail
        refine (among_new (-2) 1000001 _ _ 2 [-2, 1000001] _ w4 HC.out (by omega) (by omega) (by omega) rfl rfl (by decide)).mono ?_
        rintro e w5 ⟨z, rfl, z0, z1, hc5, hg5⟩
        have p1 := own_kept HV.out hg5 (fun g e => by cases e; exact HZ1.out)
        have p2 := own_kept HU.out hg5 (fun g e => by cases e; exact HZ1.out)
        have st := (p2.stored 0 (.int .i64 z)).1
        rw [cells_setI] at st
        obtain ⟨y0, hy0⟩ : ∃ u, (cellsI ys)[0]? = some u := ⟨_, List.getElem?_eq_getElem (by have := p2.1; omega)⟩
        have q0_ := (p2.cellAt 0 (by omega)).trans hy0
        have f0_ := p2.frozenAt 0
        have HV := Lib.hid (own_two p1 (lst.grown_set (lst.grown_refl w5 (some g2)) 0 (.int .i64 z)) hne)
        have HU := Lib.hid st
        have BZ := Lib.hid ((below_of_grown BZ.out hg5).setCell (p := ⟨g2, 0, none⟩) (by have := GE2.out; have := HZ1.out; show w.heap.size ≤ g2; omega) (.int .i64 z))
        clear p1 p2 st hc5 hg5 hy0
        go_wp2_with fail
        go_ret2
        exact ⟨_, _, _, _, _, _, _, _, rfl, intc.rd_of_own HV.out (own_len1 HV.out), intc.rd_of_own HU.out (own_len1 HU.out), hkc1, hkc2, by omega, by omega, BZ.out⟩
      have d1 : (i == 1) = false := by simpa using h1
      by_cases h2 : i = 2
      · subst h2
        go_wp2_with fail
        refine (among_new (-1000001) 1000001 _ _ 2 [1000001, -1000001] _ w4 HC.out (by omega) (by omega) (by omega) rfl rfl (by decide)).mono ?_
        rintro e w5 ⟨z, rfl, z0, z1, hc5, hg5⟩
        have p1 := own_kept HV.out hg5 (fun g e => by cases e; exact HZ1.out)
        have p2 := own_kept HU.out hg5 (fun g e => by cases e; exact HZ1.out)
        have st := (p1.stored 0 (.int .i64 z)).1
        rw [cells_setI] at st
        obtain ⟨y0, hy0⟩ : ∃ u, (cellsI xs)[0]? = some u := ⟨_, List.getElem?_eq_getElem (by have := p1.1; omega)⟩
        have q0_ := (p1.cellAt 0 (by omega)).trans hy0
        have f0_ := p1.frozenAt 0
        have HU := Lib.hid (own_two p2 (lst.grown_set (lst.grown_refl w5 (some g1)) 0 (.int .i64 z)) (fun h => hne h.symm))
        have HV := Lib.hid st
        have BZ := Lib.hid ((below_of_grown BZ.out hg5).setCell (p := ⟨g1, 0, none⟩) (by have := GE1.out; have := HZ1.out; show w.heap.size ≤ g1; omega) (.int .i64 z))
        clear p1 p2 st hc5 hg5 hy0
        go_wp2_with fail
        go_ret2
        exact ⟨_, _, _, _, _, _, _, _, rfl, intc.rd_of_own HV.out (own_len1 HV.out), intc.rd_of_own HU.out (own_len1 HU.out), hkc1, hkc2, by omega, by omega, BZ.out⟩
      · have d2 : (i == 2) = false := by simpa using h2
        go_wp2_with fail
        go_ret2
        exact ⟨_, _, _, _, _, _, _, _, rfl, intc.rd_of_own HV.out (own_len1 HV.out), intc.rd_of_own HU.out (own_len1 HU.out), hkc1, hkc2, by omega, by omega, BZ.out⟩
end Go.Proofs.Ytndogafihaooiaa.drawt12
