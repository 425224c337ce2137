/- The draws of spec for chapter 6's laws: heights and codes in range, whatever the bytes are. -/
import Derived.Test.YtbjlhnhmdhjleaaCurInt
import Derived.Test.YtbjlhnhmdhjleaaCurAny
import Derived.Test.YtbjlhnhmdhjleaaHgtS
import Derived.ChangeShapes
namespace Go.Proofs.Ytbjlhnhmdhjleaa.drawh
open Go.RowKit Go.Proofs.Ytbjlhnhmdhjleaa.cur Go.Proofs.Ytbjlhnhmdhjleaa.hgt

/-- 'among' at the head of a list that was written out before. -/
theorem among_old (lo hi : Int) (p m n N b : Nat) (xs : List Int) (cs : Array Value) (w w2 : World) (h2 : Cur w2 p m) (hm : m ≤ 900000) (hg : (w.alloc (.cells cs 3)).grownBy w2 (some p)) (hb : w.heap.size = b) (hp : p < w.heap.size)
    (hcs : cs.toList = xs.map (Value.int .i64)) (hl : xs.length = N) (hn : 1 ≤ n) (hnN : n ≤ N) (hN : N ≤ 60000) (hk : ∀ x ∈ xs, lo ≤ x ∧ x ≤ hi) :
    Calls Try.prog 35 #[.pointer (some ⟨p, 0, none⟩), .slice (some ⟨b, 0, none⟩) n N] w2 (Reads lo hi p (m + 2) w2) := by
  subst hb
  refine among lo hi p m w.heap.size 0 n N (xs.take n) w2 h2 hm hn (by omega) (by rw [List.length_take]; omega) (fun x hx => hk x (List.mem_of_mem_take hx)) (by omega) ?_
  intro j x hx
  have hx2 : xs[j]? = some x := by
    rw [List.getElem?_take] at hx
    split at hx
    · exact hx
    · cases hx
  refine hg.cell (a := ⟨w.heap.size, 0 + j, none⟩) ?_ (fun e => by injection e with e; simp at e; omega)
  rw [Nat.zero_add, cell_of_row _ _ j cs 3 (0, 0) (heap_alloc_new w _)]
  rw [← Array.getElem?_toList, hcs]
  simp [hx2]

def H0 : List Int := [-1200, -1000, -975, 0, 100, 4525, 9900, 9999, 10000, 35000, 35025, 50175, 50200, 126700, 126800, 130000, -2000, -2001, 130001]
theorem height (p m : Nat) (w : World) (h : Cur w p m) (hm : m ≤ 800000) :
    Calls Try.prog 30 #[.pointer (some ⟨p, 0, none⟩)] w (Reads (-2001) 130001 p (m + 4) w) := by
  have hp := h.lt
  have HP := Lib.hid hp
  have HC0 := Lib.hid (h.keep ((Below.refl (p + 1) w).alloc (by omega) (.cells #[.int .i64 (-1200), .int .i64 (-1000), .int .i64 (-975), .int .i64 0, .int .i64 100, .int .i64 4525, .int .i64 9900, .int .i64 9999, .int .i64 10000, .int .i64 35000, .int .i64 35025, .int .i64 50175, .int .i64 50200, .int .i64 126700, .int .i64 126800, .int .i64 130000, .int .i64 (-2000), .int .i64 (-2001), .int .i64 130001] 3)))
  have HK := Lib.hid (show ∀ x ∈ H0, -2001 ≤ x ∧ x ≤ 130001 by decide)
  clear h hp
  go_enter Try.func30, Try.ntmps30
  go_wp2_with fail
  refine (pick p m 24 _ HC0.out (by omega) (by omega) (by omega)).mono ?_
  rintro e w2 ⟨r, rfl, r0, r1, hc1, hg1⟩
  have HC1 := Lib.hid hc1
  have HG1 := Lib.hid hg1
  clear hc1 hg1 HC0
  have hq : r / 11 = 0 ∨ r / 11 = 1 ∨ r / 11 = 2 := by omega
  rcases hq with hq | hq | hq
  all_goals
    go_wp2_with fail
    refine (among_old (-2001) 130001 p (m + 2) _ 19 _ H0 _ w w2 HC1.out (by omega) HG1.out rfl HP.out rfl rfl (by omega) (by omega) (by omega) HK.out).mono ?_
    rintro e w3 ⟨x, rfl, x0, x1, hc2, hg2⟩
    have HC2 := Lib.hid hc2
    have HG2 := Lib.hid (grown_trans (grown_trans (grown_alloc _ _) HG1.out) hg2)
    clear hc2 hg2 HC1 HG1
    go_wp2_with fail
    go_ret
    exact ⟨x, rfl, x0, x1, HC2.out, HG2.out⟩

/-- What a draw returns: one number; a number and a bool; two numbers. -/
def Int1 (a b : Int) (w : World) (e : Ending) (w' : World) : Prop := ∃ x : Int, e = .returned (.int .i64 x) ∧ a ≤ x ∧ x ≤ b ∧ Below w.heap.size w w'
def IntBool (a b : Int) (w : World) (e : Ending) (w' : World) : Prop := ∃ (x : Int) (f : Bool), e = .returned (.tuple #[.int .i64 x, .bool f]) ∧ a ≤ x ∧ x ≤ b ∧ Below w.heap.size w w'
def Int2 (a b : Int) (w : World) (e : Ending) (w' : World) : Prop := ∃ x y : Int, e = .returned (.tuple #[.int .i64 x, .int .i64 y]) ∧ a ≤ x ∧ x ≤ b ∧ a ≤ y ∧ y ≤ b ∧ Below w.heap.size w w'

theorem encodeHeight (A : Option Addr) (n c : Nat) (w : World) (hn : n ≤ 65536) (h : Bytes w w.heap.size A n) :
    Calls Try.prog 12 #[.slice A n c] w (IntBool (-2001) 130001 w) := by
  have hc := Lib.hid (new_cur c (by omega) h)
  have hb0 : Below w.heap.size w (w.alloc (.cells #[.slice A n c, .int .i64 0, .int .u64 0] 43)) := (Below.refl _ _).alloc (Nat.le_refl _) _
  clear h
  go_enter Try.func12, Try.ntmps12
  go_wp2_with fail
  refine (height _ 0 _ hc.out (by omega)).mono ?_
  rintro e w1 ⟨x, rfl, x0, x1, hc1, hg1⟩
  have hb1 := below_of_grown hb0 hg1
  have HC1 := Lib.hid hc1
  clear hc1 hg1
  go_wp2_with fail
  refine (one _ _ 2 _ HC1.out (by omega) (by omega) (by omega)).mono ?_
  rintro e w2 ⟨f, rfl, hc2, hg2⟩
  have HB2 := Lib.hid (below_of_grown hb1 hg2)
  clear hc2 hg2 HC1 hb1 hb0
  go_wp2_with fail
  go_ret2
  exact ⟨x, f, rfl, x0, x1, HB2.out⟩

theorem grayOf (A : Option Addr) (n c : Nat) (w : World) (hn : n ≤ 65536) (h : Bytes w w.heap.size A n) :
    Calls Try.prog 19 #[.slice A n c] w (Int1 (-1) 2048 w) := by
  have hc := Lib.hid (new_cur c (by omega) h)
  have hb0 : Below w.heap.size w (w.alloc (.cells #[.slice A n c, .int .i64 0, .int .u64 0] 43)) := (Below.refl _ _).alloc (Nat.le_refl _) _
  clear h
  go_enter Try.func19, Try.ntmps19
  go_wp2_with fail
  refine (pick _ 0 2048 _ hc.out (by omega) (by omega) (by omega)).mono ?_
  rintro e w1 ⟨r, rfl, r0, r1, hc1, hg1⟩
  have hb1 := below_of_grown hb0 hg1
  have HC1 := Lib.hid hc1
  have BW := Lib.hid (show ∀ x ∈ ([0, 1, 2, 3, 4, 7, 8, 1023, 1024, 1279, 2047, -1, 2048, r] : List Int), -1 ≤ x ∧ x ≤ 2048 by simp; omega)
  clear hc1 hg1
  go_wp2_with fail
  refine (among_at (-1) 2048 _ 2 14 _ [0, 1, 2, 3, 4, 7, 8, 1023, 1024, 1279, 2047, -1, 2048, r] _ w1 HC1.out (by omega) (by omega) (by omega) rfl rfl BW.out rfl).mono ?_
  rintro e w2 ⟨x, rfl, x0, x1, hc2, hg2⟩
  have HB2 := Lib.hid (below_of_grown hb1 hg2)
  clear hc2 hg2 HC1 hb1 hb0
  go_wp2_with fail
  go_ret
  exact ⟨x, rfl, x0, x1, HB2.out⟩

theorem decodeHeight (A : Option Addr) (n c : Nat) (w : World) (hn : n ≤ 65536) (h : Bytes w w.heap.size A n) :
    Calls Try.prog 17 #[.slice A n c] w (Int1 (-1) 4096 w) := by
  have hc := Lib.hid (new_cur c (by omega) h)
  have hb0 : Below w.heap.size w (w.alloc (.cells #[.slice A n c, .int .i64 0, .int .u64 0] 43)) := (Below.refl _ _).alloc (Nat.le_refl _) _
  clear h
  go_enter Try.func17, Try.ntmps17
  go_wp2_with fail
  refine (pick _ 0 2048 _ hc.out (by omega) (by omega) (by omega)).mono ?_
  rintro e w1 ⟨r, rfl, r0, r1, hc1, hg1⟩
  have hb1 := below_of_grown hb0 hg1
  have HC1 := Lib.hid hc1
  clear hc1 hg1
  go_wp2_with fail
  refine (pick _ 2 2048 _ HC1.out (by omega) (by omega) (by omega)).mono ?_
  rintro e w2 ⟨q, rfl, q0, q1, hc2, hg2⟩
  have hb2 := below_of_grown hb1 hg2
  have HC2 := Lib.hid hc2
  have BW := Lib.hid (show ∀ x ∈ ([0, 1, 2047, 2048, 4095, 4096, -1, 1920, 1921, 1600, r, 2048 + q] : List Int), -1 ≤ x ∧ x ≤ 4096 by simp; omega)
  clear hc2 hg2 HC1
  go_wp2_with fail
  refine (among_at (-1) 4096 _ 4 12 _ [0, 1, 2047, 2048, 4095, 4096, -1, 1920, 1921, 1600, r, 2048 + q] _ w2 HC2.out (by omega) (by omega) (by omega) rfl rfl BW.out rfl).mono ?_
  rintro e w3 ⟨x, rfl, x0, x1, hc3, hg3⟩
  have HB3 := Lib.hid (below_of_grown hb2 hg3)
  clear hc3 hg3 HC2 hb2 hb1 hb0
  go_wp2_with fail
  go_ret
  exact ⟨x, rfl, x0, x1, HB3.out⟩

/-- spec.l6Gray at a number that may be one too great. -/
theorem gray13 (k : Nat) (hk : k ≤ 2048) (w : World) :
    Calls Try.prog 33 #[.int .i64 (k : Int)] w fun e w' => e = .returned (.int .i64 (gray k : Int)) ∧ w = w' := by
  have e1 : bits .xor .i64 (k : Int) ((k : Int) / 2) = (gray k : Int) := by
    rw [show ((k : Int) / 2) = ((k / 2 : Nat) : Int) by omega]
    exact hgti.xor_nat_i k (k / 2) (by omega) (by omega)
  have h1 : (k : Int) ≤ 2048 := by omega
  generalize gray k = g at *
  clear hk
  go_enter Try.func33, Try.ntmps33
  go_wp2_with fail
  go_ret
  exact ⟨rfl, rfl⟩
theorem gray_lt13 {k : Nat} (hk : k ≤ 2048) : gray k ≤ 4095 := by
  have := Nat.xor_lt_two_pow (x := k) (y := k / 2) (n := 12) (by omega) (by omega)
  show k ^^^ (k / 2) ≤ 4095
  omega

theorem changedBits (A : Option Addr) (n c : Nat) (w : World) (hn : n ≤ 65536) (h : Bytes w w.heap.size A n) :
    Calls Try.prog 24 #[.slice A n c] w (Int2 (-1) 4096 w) := by
  have hc := Lib.hid (new_cur c (by omega) h)
  have hb0 : Below w.heap.size w (w.alloc (.cells #[.slice A n c, .int .i64 0, .int .u64 0] 43)) := (Below.refl _ _).alloc (Nat.le_refl _) _
  have HD := Lib.hid (decodeHeight A n c (w.alloc (.cells #[.slice A n c, .int .i64 0, .int .u64 0] 43)) hn (by
    have hk := h.keep (w' := w.alloc (.cells #[.slice A n c, .int .i64 0, .int .u64 0] 43)) (fun b o hb => hb0.cell (p := ⟨b, o, none⟩) hb)
    intro h0
    obtain ⟨b, o, e, hlt, hx⟩ := hk h0
    exact ⟨b, o, e, by rw [World.size_alloc]; omega, hx⟩))
  clear h
  go_enter Try.func24, Try.ntmps24
  go_wp2_with fail
  refine HD.out.mono ?_
  rintro e w1 ⟨a, rfl, a0, a1, hbl⟩
  have HB1 := Lib.hid (hb0.trans (hbl.mono hb0.size))
  have HC1 := Lib.hid (hc.out.keep (hbl.mono (by rw [World.size_alloc]; omega)))
  clear hbl hc HD
  go_wp2_with fail
  refine (one _ 0 2 _ HC1.out (by omega) (by omega) (by omega)).mono ?_
  rintro e w2 ⟨f, rfl, hc2, hg2⟩
  have HB2 := Lib.hid (below_of_grown HB1.out hg2)
  have HC2 := Lib.hid hc2
  clear hc2 hg2 HC1 HB1 hb0
  have HI := Lib.hid (fun w => in_.l1In a 0 2047 w)
  have BW := Lib.hid (show ∀ x ∈ ([0, 2048, 4095, 3, 4096, -1] : List Int), -1 ≤ x ∧ x ≤ 4096 by decide)
  cases f
  · go_wp2_with fail
    refine (among_at (-1) 4096 _ 2 6 _ [0, 2048, 4095, 3, 4096, -1] _ w2 HC2.out (by omega) (by omega) (by omega) rfl rfl BW.out rfl).mono ?_
    rintro e w3 ⟨x, rfl, x0, x1, hc3, hg3⟩
    have HB3 := Lib.hid (below_of_grown HB2.out hg3)
    clear hc3 hg3 HC2 HB2
    go_wp2_with fail
    go_ret2
    exact ⟨a, x, rfl, a0, a1, x0, x1, HB3.out⟩
  · by_cases ha : 0 ≤ a ∧ a ≤ 2047
    · have e0 : in_.isIn a 0 2047 = true := decide_eq_true ha
      rw [e0] at HI
      obtain ⟨k, rfl⟩ := Int.eq_ofNat_of_zero_le ha.1
      have hk : k < 2048 := by omega
      have HU := Lib.hid (fun w => hgts.unGray k hk w)
      have hu := un_lt hk
      generalize un k = u at *
      have HG := Lib.hid (fun w => gray13 (u + 1) (by omega) w)
      have hg := gray_lt13 (k := u + 1) (by omega)
      generalize gray (u + 1) = g at *
      have e1 : ((u + 1 : Nat) : Int) = (u : Int) + 1 := by omega
      rw [e1] at HG
      have hu0 : (0 : Int) ≤ (u : Int) := by omega
      have hu1 : (u : Int) < 2048 := by omega
      have HR := Lib.hid (show (-1 : Int) ≤ (g : Int) ∧ (g : Int) ≤ 4096 by omega)
      have HA := Lib.hid (And.intro a0 a1)
      clear e1 ha hk hu hg e0 a0 a1
      generalize (k : Int) = y at *
      generalize (u : Int) = v at *
      generalize (g : Int) = z at *
      go_wp2_with fail
      refine (HI.out _).mono ?_
      rintro e w3 ⟨rfl, rfl⟩
      go_wp2_with fail
      refine (HU.out _).mono ?_
      rintro e w3 ⟨rfl, rfl⟩
      go_wp2_with fail
      refine (HG.out _).mono ?_
      rintro e w3 ⟨rfl, rfl⟩
      go_wp2_with fail
      go_ret2
      exact ⟨y, z, rfl, HA.out.1, HA.out.2, HR.out.1, HR.out.2, HB2.out⟩
    · have e0 : in_.isIn a 0 2047 = false := decide_eq_false ha
      rw [e0] at HI
      clear e0 ha
      go_wp2_with fail
      refine (HI.out _).mono ?_
      rintro e w3 ⟨rfl, rfl⟩
      go_wp2_with fail
      refine (among_at (-1) 4096 _ 2 6 _ [0, 2048, 4095, 3, 4096, -1] _ w2 HC2.out (by omega) (by omega) (by omega) rfl rfl BW.out rfl).mono ?_
      rintro e w3 ⟨x, rfl, x0, x1, hc3, hg3⟩
      have HB3 := Lib.hid (below_of_grown HB2.out hg3)
      clear hc3 hg3 HC2 HB2
      go_wp2_with fail
      go_ret2
      exact ⟨a, x, rfl, a0, a1, x0, x1, HB3.out⟩
end Go.Proofs.Ytbjlhnhmdhjleaa.drawh
