/- The draws of spec for chapter 6's laws: heights and codes in range, whatever the bytes are. -/
import Derived.Test.YtinkkdgjpcnklaaCurInt
import Derived.Test.YtinkkdgjpcnklaaCurAny
import Derived.Test.YtinkkdgjpcnklaaHgtS
import Derived.ChangeShapes
namespace Go.Proofs.Ytinkkdgjpcnklaa.drawh
open Go.RowKit Go.Proofs.Ytinkkdgjpcnklaa.cur Go.Proofs.Ytinkkdgjpcnklaa.hgt

/-- 'among' at the head of a list that was written out before. -/
theorem among_old (lo hi : Int) (p m n N b : Nat) (xs : List Int) (cs : Array Value) (w w2 : World) (h2 : Cur w2 p m) (hm : m ≤ 900000) (hg : (w.alloc (.cells cs 3)).grownBy w2 (some p)) (hb : w.heap.size = b) (hp : p < w.heap.size)
    (hcs : cs.toList = xs.map (Value.int .i64)) (hl : xs.length = N) (hn : 1 ≤ n) (hnN : n ≤ N) (hN : N ≤ 60000) (hk : ∀ x ∈ xs, lo ≤ x ∧ x ≤ hi) :
    Calls Try.prog 48 #[.pointer (some ⟨p, 0, none⟩), .slice (some ⟨b, 0, none⟩) n N] w2 (Reads lo hi p (m + 2) w2) := by
  subst hb
  refine among lo hi p m w.heap.size 0 n N (xs.take n) w2 h2 hm hn (by omega) (by rw [List.length_take]; omega) (fun x hx => hk x (List.mem_of_mem_take hx)) (by omega) ?_
  intro j x hx
  have hx2 : xs[j]? = some x := by
    rw [List.getElem?_take] at hx
    split at hx
    · exact hx
    · cases hx
  refine hg.cell (a := ⟨w.heap.size, 0 + j, none⟩) ?_ (fun e => by injection e with e; simp at e; omega)
  rw [Nat.zero_add, cell_of_row _ _ j cs 3 (0, 0) (heap_alloc_new w _)]
  rw [← Array.getElem?_toList, hcs]
  simp [hx2]

def H0 : List Int := [-1200, -1000, -975, 0, 100, 4525, 9900, 9999, 10000, 35000, 35025, 50175, 50200, 126700, 126800, 130000, -2000, -2001, 130001]
/-- What a draw returns: one number; a number and a bool; two numbers. -/
def Int1 (a b : Int) (w : World) (e : Ending) (w' : World) : Prop := ∃ x : Int, e = .returned (.int .i64 x) ∧ a ≤ x ∧ x ≤ b ∧ Below w.heap.size w w'
def IntBool (a b : Int) (w : World) (e : Ending) (w' : World) : Prop := ∃ (x : Int) (f : Bool), e = .returned (.tuple #[.int .i64 x, .bool f]) ∧ a ≤ x ∧ x ≤ b ∧ Below w.heap.size w w'
def Int2 (a b : Int) (w : World) (e : Ending) (w' : World) : Prop := ∃ x y : Int, e = .returned (.tuple #[.int .i64 x, .int .i64 y]) ∧ a ≤ x ∧ x ≤ b ∧ a ≤ y ∧ y ≤ b ∧ Below w.heap.size w w'

theorem gray_lt13 {k : Nat} (hk : k ≤ 2048) : gray k ≤ 4095 := by
  have := Nat.xor_lt_two_pow (x := k) (y := k / 2) (n := 12) (by omega) (by omega)
  show k ^^^ (k / 2) ≤ 4095
  omega

end Go.Proofs.Ytinkkdgjpcnklaa.drawh
