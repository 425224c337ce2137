/- The reader of choices, on: of: one of some short strings. -/
import Derived.Test.YtdededldoamifaaCur
namespace Go.Proofs.Ytdededldoamifaa.cur
open Go.RowKit

/-- A string of at most k bytes is handed back; only the reader's block has turned. -/
def Str (k p m : Nat) (w : World) (e : Ending) (w' : World) : Prop := ∃ x : ByteArray, e = .returned (.string x) ∧ x.size ≤ k ∧ Cur w' p m ∧ w.grownBy w' (some p)

/-- A string with a property is handed back; only the reader's block has turned. -/
def StrQ (Q : ByteArray → Prop) (p m : Nat) (w : World) (e : Ending) (w' : World) : Prop := ∃ x : ByteArray, e = .returned (.string x) ∧ Q x ∧ Cur w' p m ∧ w.grownBy w' (some p)

theorem ofQ (Q : ByteArray → Prop) (p m : Nat) (b o n c : Nat) (xs : List ByteArray) (w : World) (h : Cur w p m) (hm : m ≤ 900000) (hn : 1 ≤ n) (hn2 : n ≤ 60000) (hl : xs.length = n) (hk : ∀ x ∈ xs, Q x) (hbp : b ≠ p)
    (hcell : ∀ j x, xs[j]? = some x → w.cell? ⟨b, o + j, none⟩ = some (.string x)) :
    Calls Try.prog 72 #[.pointer (some ⟨p, 0, none⟩), .slice (some ⟨b, o, none⟩) n c] w (StrQ Q p (m + 2) w) := by
  have hx := Lib.hid (pick p m n w h hm (by omega) (by omega))
  have HC := Lib.hid hcell
  have HK := Lib.hid hk
  have HL := Lib.hid hl
  clear h hcell hk hl
  go_enter Try.func72, Try.ntmps72
  go_wp2_with fail
  refine hx.out.mono ?_
  rintro e w1 ⟨r, rfl, r0, r1, hc1, hg1⟩
  obtain ⟨j, rfl⟩ := Int.eq_ofNat_of_zero_le r0
  have hj : j < n := by omega
  obtain ⟨x, hxj⟩ : ∃ x, xs[j]? = some x := ⟨_, List.getElem?_eq_getElem (by rw [HL.out]; exact hj)⟩
  have hcx := hg1.cell (HC.out j x hxj) (fun e => hbp (by simpa using e))
  have hxk := Lib.hid (HK.out x (List.mem_of_getElem? hxj))
  have hj2 : (j : Int) < (n : Int) := by omega
  clear hxj r0 r1
  go_wp2_with fail
  go_ret
  exact ⟨x, rfl, hxk.out, hc1, hg1⟩

theorem of (k p m : Nat) (b o n c : Nat) (xs : List ByteArray) (w : World) (h : Cur w p m) (hm : m ≤ 900000) (hn : 1 ≤ n) (hn2 : n ≤ 60000) (hl : xs.length = n) (hk : ∀ x ∈ xs, x.size ≤ k) (hbp : b ≠ p)
    (hcell : ∀ j x, xs[j]? = some x → w.cell? ⟨b, o + j, none⟩ = some (.string x)) :
    Calls Try.prog 72 #[.pointer (some ⟨p, 0, none⟩), .slice (some ⟨b, o, none⟩) n c] w (Str k p (m + 2) w) :=
  ofQ (fun x => x.size ≤ k) p m b o n c xs w h hm hn hn2 hl hk hbp hcell

theorem grown_alloc {w : World} (o : Obj) (row : Option Nat) : w.grownBy (w.alloc o) row := World.grownBy_alloc w o row

/-- 'of' at a list that has just been written out. -/
theorem of_newQ (Q : ByteArray → Prop) (p m n : Nat) (xs : List ByteArray) (cs : Array Value) (w : World) (h : Cur w p m) (hm : m ≤ 900000) (hn : 1 ≤ n) (hn2 : n ≤ 60000) (hcs : cs.toList = xs.map Value.string) (hl : xs.length = n) (hk : ∀ x ∈ xs, Q x) :
    Calls Try.prog 72 #[.pointer (some ⟨p, 0, none⟩), .slice (some ⟨w.heap.size, 0, none⟩) n n] (w.alloc (.cells cs 9)) (StrQ Q p (m + 2) w) := by
  have hlt := h.lt
  have hb : Below (p + 1) w (w.alloc (.cells cs 9)) := (Below.refl _ _).alloc (by omega) _
  refine (ofQ Q p m w.heap.size 0 n n xs _ (h.keep hb) hm hn hn2 hl hk (by omega) ?_).mono fun e w' ⟨x, he, hx, hc, hg⟩ => ⟨x, he, hx, hc, grown_trans (grown_alloc _ _) hg⟩
  intro j x hx
  rw [Nat.zero_add, cell_of_row _ _ j cs 9 (0, 0) (heap_alloc_new w _)]
  rw [← Array.getElem?_toList, hcs]
  simp [hx]

theorem of_new (k p m n : Nat) (xs : List ByteArray) (cs : Array Value) (w : World) (h : Cur w p m) (hm : m ≤ 900000) (hn : 1 ≤ n) (hn2 : n ≤ 60000) (hcs : cs.toList = xs.map Value.string) (hl : xs.length = n) (hk : ∀ x ∈ xs, x.size ≤ k) :
    Calls Try.prog 72 #[.pointer (some ⟨p, 0, none⟩), .slice (some ⟨w.heap.size, 0, none⟩) n n] (w.alloc (.cells cs 9)) (Str k p (m + 2) w) :=
  of_newQ (fun x => x.size ≤ k) p m n xs cs w h hm hn hn2 hcs hl hk

/-- Is it a string of at most k bytes? -/
def shortS (k : Nat) : Value → Bool
  | .string x => decide (x.size ≤ k)
  | _ => false
theorem shorts (k : Nat) : ∀ (l : List Value), l.all (shortS k) = true → ∃ xs : List ByteArray, l = xs.map Value.string ∧ ∀ x ∈ xs, x.size ≤ k
  | [], _ => ⟨[], rfl, fun x hx => by simp at hx⟩
  | v :: l, h => by
    simp only [List.all_cons, Bool.and_eq_true] at h
    obtain ⟨xs, e, hx⟩ := shorts k l h.2
    match v, h.1 with
    | .string x, h1 =>
      refine ⟨x :: xs, by rw [e]; rfl, fun y hy => ?_⟩
      rcases List.mem_cons.1 hy with rfl | hy
      · simpa [shortS] using h1
      · exact hx y hy

/-- 'of' at a list of literals that has just been written out: the list is read off. -/
theorem of_list (k p m n : Nat) (cs : Array Value) (w : World) (h : Cur w p m) (hm : m ≤ 900000) (hn : 1 ≤ n) (hn2 : n ≤ 60000) (hl : cs.size = n) (hk : cs.toList.all (shortS k) = true) :
    Calls Try.prog 72 #[.pointer (some ⟨p, 0, none⟩), .slice (some ⟨w.heap.size, 0, none⟩) n n] (w.alloc (.cells cs 9)) (Str k p (m + 2) w) := by
  obtain ⟨xs, e, hx⟩ := shorts k _ hk
  refine of_new k p m n xs cs w h hm hn hn2 e ?_ hx
  have : cs.toList.length = xs.length := by rw [e, List.length_map]
  rw [← this, Array.length_toList, hl]

/-- A reader made in a new block. -/
theorem new_cur {w : World} {A : Option Addr} {n : Nat} (c : Nat) (hn : n ≤ 9223372036854775807) (h : Bytes w w.heap.size A n) : Cur (w.alloc (.cells #[.slice A n c, .int .i64 0, .int .u64 0] 57)) w.heap.size 0 :=
  ⟨A, n, c, 0, 0, heap_alloc_new w _, Nat.le_refl _, hn, h.keep fun b o hlt => World.cell?_alloc_lt w _ ⟨b, o, none⟩ hlt⟩

theorem below_of_grown {w w1 w2 : World} (h : Below w.heap.size w w1) (hg : w1.grownBy w2 (some w.heap.size)) : Below w.heap.size w w2 :=
  h.grown hg h.size (fun k e => by cases e; exact Nat.le_refl _)

/-- What a Draw function of two strings gives. -/
def Two (k1 k2 : Nat) (w : World) (e : Ending) (w' : World) : Prop := ∃ x y : ByteArray, e = .returned (.tuple #[.string x, .string y]) ∧ x.size ≤ k1 ∧ y.size ≤ k2 ∧ Below w.heap.size w w'
end Go.Proofs.Ytdededldoamifaa.cur
