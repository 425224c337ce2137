/- The reader of choices, on: among: one of some numbers. -/
import Derived.Test.YtkndfklbonkbiaaCurStr
namespace Go.Proofs.Ytkndfklbonkbiaa.cur
open Go.RowKit

theorem among (lo hi : Int) (p m : Nat) (b o n c : Nat) (xs : List Int) (w : World) (h : Cur w p m) (hm : m ≤ 900000) (hn : 1 ≤ n) (hn2 : n ≤ 60000) (hl : xs.length = n) (hk : ∀ x ∈ xs, lo ≤ x ∧ x ≤ hi) (hbp : b ≠ p)
    (hcell : ∀ j x, xs[j]? = some x → w.cell? ⟨b, o + j, none⟩ = some (.int .i64 x)) :
    Calls Try.prog 69 #[.pointer (some ⟨p, 0, none⟩), .slice (some ⟨b, o, none⟩) n c] w (Reads lo hi p (m + 2) w) := by
  have hx := Lib.hid (pick p m n w h hm (by omega) (by omega))
  have HC := Lib.hid hcell
  have HK := Lib.hid hk
  have HL := Lib.hid hl
  clear h hcell hk hl
  go_enter Try.func69, Try.ntmps69
  go_wp2_with fail
  refine hx.out.mono ?_
  rintro e w1 ⟨r, rfl, r0, r1, hc1, hg1⟩
  obtain ⟨j, rfl⟩ := Int.eq_ofNat_of_zero_le r0
  have hj : j < n := by omega
  obtain ⟨x, hxj⟩ : ∃ x, xs[j]? = some x := ⟨_, List.getElem?_eq_getElem (by rw [HL.out]; exact hj)⟩
  have hcx := hg1.cell (HC.out j x hxj) (fun e => hbp (by simpa using e))
  have hxk := HK.out x (List.mem_of_getElem? hxj)
  have hj2 : (j : Int) < (n : Int) := by omega
  clear hxj r0 r1
  go_wp2_with fail
  go_ret
  exact ⟨x, rfl, hxk.1, hxk.2, hc1, hg1⟩

/-- 'among' at a list that has just been written out. -/
theorem among_new (lo hi : Int) (p m n : Nat) (xs : List Int) (cs : Array Value) (w : World) (h : Cur w p m) (hm : m ≤ 900000) (hn : 1 ≤ n) (hn2 : n ≤ 60000) (hcs : cs.toList = xs.map (Value.int .i64)) (hl : xs.length = n) (hk : ∀ x ∈ xs, lo ≤ x ∧ x ≤ hi) :
    Calls Try.prog 69 #[.pointer (some ⟨p, 0, none⟩), .slice (some ⟨w.heap.size, 0, none⟩) n n] (w.alloc (.cells cs 3)) (Reads lo hi p (m + 2) w) := by
  have hlt := h.lt
  have hb : Below (p + 1) w (w.alloc (.cells cs 3)) := (Below.refl _ _).alloc (by omega) _
  refine (among lo hi p m w.heap.size 0 n n xs _ (h.keep hb) hm hn hn2 hl hk (by omega) ?_).mono fun e w' ⟨x, he, h1, h2, hc, hg⟩ => ⟨x, he, h1, h2, hc, grown_trans (grown_alloc _ _) hg⟩
  intro j x hx
  rw [Nat.zero_add, cell_of_row _ _ j cs 3 (0, 0) (heap_alloc_new w _)]
  rw [← Array.getElem?_toList, hcs]
  simp [hx]

/-- .. where the list's block is spelt otherwise. -/
theorem among_at (lo hi : Int) (p m n b : Nat) (xs : List Int) (cs : Array Value) (w : World) (h : Cur w p m) (hm : m ≤ 900000) (hn : 1 ≤ n) (hn2 : n ≤ 60000) (hcs : cs.toList = xs.map (Value.int .i64)) (hl : xs.length = n) (hk : ∀ x ∈ xs, lo ≤ x ∧ x ≤ hi) (hb : w.heap.size = b) :
    Calls Try.prog 69 #[.pointer (some ⟨p, 0, none⟩), .slice (some ⟨b, 0, none⟩) n n] (w.alloc (.cells cs 3)) (Reads lo hi p (m + 2) w) := by
  subst hb
  exact among_new lo hi p m n xs cs w h hm hn hn2 hcs hl hk
end Go.Proofs.Ytkndfklbonkbiaa.cur
