/- The draws of spec for chapter 6's laws: heights and codes in range, whatever the bytes are. -/
import Derived.Test.YtbjlhnhmdhjleaaDoorCurInt
import Derived.Test.YtbjlhnhmdhjleaaDoorCurAny
import Derived.Test.YtbjlhnhmdhjleaaDoorHgtS
import Derived.ChangeShapes
namespace Go.Proofs.YtbjlhnhmdhjleaaDoor.drawh
open Go.RowKit Go.Proofs.YtbjlhnhmdhjleaaDoor.cur Go.Proofs.YtbjlhnhmdhjleaaDoor.hgt

/-- 'among' at the head of a list that was written out before. -/
theorem among_old (lo hi : Int) (p m n N b : Nat) (xs : List Int) (cs : Array Value) (w w2 : World) (h2 : Cur w2 p m) (hm : m ≤ 900000) (hg : (w.alloc (.cells cs 3)).grownBy w2 (some p)) (hb : w.heap.size = b) (hp : p < w.heap.size)
    (hcs : cs.toList = xs.map (Value.int .i64)) (hl : xs.length = N) (hn : 1 ≤ n) (hnN : n ≤ N) (hN : N ≤ 60000) (hk : ∀ x ∈ xs, lo ≤ x ∧ x ≤ hi) :
    Calls Tryd.prog 30 #[.pointer (some ⟨p, 0, none⟩), .slice (some ⟨b, 0, none⟩) n N] w2 (Reads lo hi p (m + 2) w2) := by
  subst hb
  refine among lo hi p m w.heap.size 0 n N (xs.take n) w2 h2 hm hn (by omega) (by rw [List.length_take]; omega) (fun x hx => hk x (List.mem_of_mem_take hx)) (by omega) ?_
  intro j x hx
  have hx2 : xs[j]? = some x := by
    rw [List.getElem?_take] at hx
    split at hx
    · exact hx
    · cases hx
  refine hg.cell (a := ⟨w.heap.size, 0 + j, none⟩) ?_ (fun e => by injection e with e; simp at e; omega)
  rw [Nat.zero_add, cell_of_row _ _ j cs 3 (0, 0) (heap_alloc_new w _)]
  rw [← Array.getElem?_toList, hcs]
  simp [hx2]

def H0 : List Int := [-1200, -1000, -975, 0, 100, 4525, 9900, 9999, 10000, 35000, 35025, 50175, 50200, 126700, 126800, 130000, -2000, -2001, 130001]
theorem height (p m : Nat) (w : World) (h : Cur w p m) (hm : m ≤ 800000) :
    Calls Tryd.prog 21 #[.pointer (some ⟨p, 0, none⟩)] w (Reads (-2001) 130001 p (m + 4) w) := by
  have hp := h.lt
  have HP := Lib.hid hp
  have HC0 := Lib.hid (h.keep ((Below.refl (p + 1) w).alloc (by omega) (.cells #[.int .i64 (-1200), .int .i64 (-1000), .int .i64 (-975), .int .i64 0, .int .i64 100, .int .i64 4525, .int .i64 9900, .int .i64 9999, .int .i64 10000, .int .i64 35000, .int .i64 35025, .int .i64 50175, .int .i64 50200, .int .i64 126700, .int .i64 126800, .int .i64 130000, .int .i64 (-2000), .int .i64 (-2001), .int .i64 130001] 3)))
  have HK := Lib.hid (show ∀ x ∈ H0, -2001 ≤ x ∧ x ≤ 130001 by decide)
  clear h hp
  go_enter Tryd.func21, Tryd.ntmps21
  go_wp2_with fail
  refine (pick p m 24 _ HC0.out (by omega) (by omega) (by omega)).mono ?_
  rintro e w2 ⟨r, rfl, r0, r1, hc1, hg1⟩
  have HC1 := Lib.hid hc1
  have HG1 := Lib.hid hg1
  clear hc1 hg1 HC0
  have hq : r / 11 = 0 ∨ r / 11 = 1 ∨ r / 11 = 2 := by omega
  rcases hq with hq | hq | hq
  all_goals
    go_wp2_with fail
    refine (among_old (-2001) 130001 p (m + 2) _ 19 _ H0 _ w w2 HC1.out (by omega) HG1.out rfl HP.out rfl rfl (by omega) (by omega) (by omega) HK.out).mono ?_
    rintro e w3 ⟨x, rfl, x0, x1, hc2, hg2⟩
    have HC2 := Lib.hid hc2
    have HG2 := Lib.hid (grown_trans (grown_trans (grown_alloc _ _) HG1.out) hg2)
    clear hc2 hg2 HC1 HG1
    go_wp2_with fail
    go_ret
    exact ⟨x, rfl, x0, x1, HC2.out, HG2.out⟩

/-- What a draw returns: one number; a number and a bool; two numbers. -/
def Int1 (a b : Int) (w : World) (e : Ending) (w' : World) : Prop := ∃ x : Int, e = .returned (.int .i64 x) ∧ a ≤ x ∧ x ≤ b ∧ Below w.heap.size w w'
def IntBool (a b : Int) (w : World) (e : Ending) (w' : World) : Prop := ∃ (x : Int) (f : Bool), e = .returned (.tuple #[.int .i64 x, .bool f]) ∧ a ≤ x ∧ x ≤ b ∧ Below w.heap.size w w'
def Int2 (a b : Int) (w : World) (e : Ending) (w' : World) : Prop := ∃ x y : Int, e = .returned (.tuple #[.int .i64 x, .int .i64 y]) ∧ a ≤ x ∧ x ≤ b ∧ a ≤ y ∧ y ≤ b ∧ Below w.heap.size w w'

theorem gray_lt13 {k : Nat} (hk : k ≤ 2048) : gray k ≤ 4095 := by
  have := Nat.xor_lt_two_pow (x := k) (y := k / 2) (n := 12) (by omega) (by omega)
  show k ^^^ (k / 2) ≤ 4095
  omega

end Go.Proofs.YtbjlhnhmdhjleaaDoor.drawh
