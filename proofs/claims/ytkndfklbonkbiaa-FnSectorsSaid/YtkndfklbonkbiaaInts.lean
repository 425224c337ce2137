/- Slices of ints: what it is to read as a list of ints, and the contracts of the laws' own helpers eqIntS, markIntS, heldIntS. -/
import Derived.Test.YtkndfklbonkbiaaOwn
import Derived.WalkSpells
import Derived.IntWalk
import Derived.Outline
import Derived.BigQuiet
import Derived.Deep.QuietTactic
namespace Go.Proofs.Ytkndfklbonkbiaa.ints
open Go.RowKit

/-- The slice (A, n) reads as the ints xs; nil and empty ones too; it lies below block B. -/
def RdI (w : World) (B : Nat) (A : Option Addr) (n : Nat) (xs : List Int) : Prop :=
  xs.length = n ∧ (0 < n → ∃ b o, A = some ⟨b, o, none⟩ ∧ b < B ∧ ∀ j x, xs[j]? = some x → w.cell? ⟨b, o + j, none⟩ = some (.int .i64 x))
theorem RdI.below {w w' : World} {B B' n : Nat} {A : Option Addr} {xs : List Int} (h : RdI w B A n xs) (hb : Below B' w w') (hB : B ≤ B') : RdI w' B A n xs :=
  ⟨h.1, fun hn => by
    obtain ⟨b, o, e, hlt, hc⟩ := h.2 hn
    exact ⟨b, o, e, hlt, fun j x hx => (hb.cell (p := ⟨b, o + j, none⟩) (by exact Nat.lt_of_lt_of_le hlt hB)).trans (hc j x hx)⟩⟩
theorem RdI.more {w : World} {B B' n : Nat} {A : Option Addr} {xs : List Int} (h : RdI w B A n xs) (hB : B ≤ B') : RdI w B' A n xs :=
  ⟨h.1, fun hn => by
    obtain ⟨b, o, e, hlt, hc⟩ := h.2 hn
    exact ⟨b, o, e, by omega, hc⟩⟩
theorem RdI.next {w w' : World} {n : Nat} {A : Option Addr} {xs : List Int} (h : RdI w w.heap.size A n xs) (hb : Below w.heap.size w w') : RdI w' w'.heap.size A n xs := (h.below hb (Nat.le_refl _)).more hb.size
def cellsI (xs : List Int) : List Value := xs.map (Value.int .i64)
theorem RdI.of_own {w : World} {B e c n : Nat} {A : Option Addr} {xs : List Int} (h : w.ownsRow B e 1 (.slice A n c) xs.length (cellsI xs)) (hn : n = xs.length) : RdI w w.heap.size A n xs := by
  refine ⟨hn.symm, fun h0 => ?_⟩
  rcases h.2 with ⟨_, h1⟩ | ⟨g, cap, cur, hv, _, hh, _⟩
  · omega
  · injection hv with hA
    subst hA
    refine ⟨g, 0, rfl, ?_, fun j x hx => ?_⟩
    · rcases Nat.lt_or_ge g w.heap.size with h2 | h2
      · exact h2
      · rw [Array.getElem?_eq_none h2] at hh; cases hh
    · have := h.cells (g := g) rfl j (.int .i64 x) (by unfold cellsI; simp [hx])
      rwa [Addr.add_lit] at this
theorem RdI.at_ {w : World} {B n k : Nat} {A : Option Addr} {xs : List Int} (h : RdI w B A n xs) (hk : k < n) :
    ∃ b o x, A = some ⟨b, o, none⟩ ∧ b < B ∧ xs[k]? = some x ∧ w.cell? ⟨b, o + k, none⟩ = some (.int .i64 x) := by
  obtain ⟨b, o, e, hb, hc⟩ := h.2 (by omega)
  have hl : k < xs.length := by rw [h.1]; exact hk
  exact ⟨b, o, xs[k], e, hb, List.getElem?_eq_getElem hl, hc k _ (List.getElem?_eq_getElem hl)⟩
theorem own_slice {w : World} {B e n : Nat} {v : Value} {xs : List Value} (h : w.ownsRow B e 1 v n xs) : ∃ A c, v = .slice A n c := by
  rcases h.2 with ⟨rfl, h0⟩ | ⟨g, cap, cur, rfl, _⟩
  · exact ⟨_, _, by rw [h0]⟩
  · exact ⟨_, _, rfl⟩
theorem int_ne_self (x : Int) : (x != x) = false := by simp

set_option maxHeartbeats 400000 in
theorem eq_same (xs : List Int) (A C : Option Addr) (n c d : Nat) (w : World) (hn : n ≤ 1048577) (h1 : RdI w w.heap.size A n xs) (h2 : RdI w w.heap.size C n xs) :
    Calls Try.prog 11 #[.slice A n c, .slice C n d] w fun e w' => e = .returned (.bool true) ∧ ∃ j, w' = w.drewN j := by
  go_enter Try.func11, Try.ntmps11
  go_wp2
  go_loopw [5] (fun i wr => ∃ k j : Nat, k ≤ n ∧ i = .int .i64 k ∧ wr = w.drewN j) (fun i _ => n - (intOf i).toNat)
  case atStart => exact ⟨0, 0, Nat.zero_le _, rfl, rfl⟩
  case round =>
    obtain ⟨k, j, hk, rfl, rfl⟩ := hrel
    by_cases hlt : k < n
    · obtain ⟨b1, o1, x, rfl, _, hx, e1⟩ := h1.at_ hlt
      obtain ⟨b2, o2, y, rfl, _, hy, e2⟩ := h2.at_ hlt
      obtain rfl : x = y := Option.some.inj (hx.symm.trans hy)
      have hlt2 : (k : Int) < (n : Int) := by omega
      have hs := int_ne_self x
      clear h1 h2 hx hy
      go_wp2_with fail
      go_quiet (fail)
      go_wp2
      go_roundw
      case rel => exact ⟨k + 1, _, by omega, by go_num, by first | rfl | rw [World.drewN_drewN]⟩
      case measure => simp [intOf]; omega
    · clear h1 h2
      go_wp2
      go_ret
      exact ⟨rfl, j, rfl⟩

/-- n numbers from k on. -/
def marksI (k n : Nat) : List Int := (List.range n).map fun i => ((k + i : Nat) : Int)
theorem marksI_at {k n i : Nat} (h : i < n) : (marksI k n)[i]? = some ((k + i : Nat) : Int) := by simp [marksI, h]
theorem marksI_length (k n : Nat) : (marksI k n).length = n := by simp [marksI]

set_option maxHeartbeats 400000 in
theorem held (A : Option Addr) (k n c : Nat) (w : World) (hk : k + n ≤ 2097152) (h : RdI w w.heap.size A n (marksI k n)) :
    Calls Try.prog 15 #[.slice A n c, .int .i64 (k : Int)] w fun e w' => e = .returned (.int .i64 ((k + n : Nat) : Int)) ∧ w = w' := by
  go_enter Try.func15, Try.ntmps15
  go_wp2
  go_loop [1, 5] (fun q i => ∃ j : Nat, j ≤ n ∧ i = .int .i64 j ∧ q = .int .i64 ((k + j : Nat) : Int)) (fun _ i => n - (intOf i).toNat)
  case atStart => exact ⟨0, Nat.zero_le _, rfl, rfl⟩
  case round =>
    obtain ⟨j, hj, rfl, rfl⟩ := hrel
    by_cases hlt : j < n
    · obtain ⟨b, o, x, rfl, hbl, hx, hc⟩ := h.at_ hlt
      obtain rfl : ((k + j : Nat) : Int) = x := Option.some.inj ((marksI_at hlt).symm.trans hx)
      have hlt2 : (j : Int) < (n : Int) := by omega
      have hs := int_ne_self ((k + j : Nat) : Int)
      have e1 : ((k + (j + 1) : Nat) : Int) = ((k + j : Nat) : Int) + 1 := by omega
      have E1 := Lib.hid e1
      have b1 : ((k + j : Nat) : Int) ≤ 2097152 := by omega
      clear h hx e1
      go_wp2_with fail
      go_round
      case rel => exact ⟨j + 1, by omega, by go_num, by rw [E1.out]; go_num⟩
      case measure => simp [intOf]; omega
    · clear h
      go_wp2
      go_ret
      exact ⟨aid.ret_int (by omega), rfl⟩

/-- A row with its first j cells marked. -/
def half (k j : Nat) (xs : List Value) : List Value := cellsI (marksI k j) ++ xs.drop j
theorem half_zero (k : Nat) (xs : List Value) : half k 0 xs = xs := by simp [half, marksI, cellsI]
theorem half_all {k n : Nat} {xs : List Value} (h : xs.length ≤ n) : half k n xs = cellsI (marksI k n) := by
  unfold half; rw [List.drop_eq_nil_of_le h, List.append_nil]
theorem half_length {k j : Nat} {xs : List Value} (h : j ≤ xs.length) : (half k j xs).length = xs.length := by
  unfold half cellsI; rw [List.length_append, List.length_map, marksI_length, List.length_drop]; omega
theorem half_set {k j : Nat} {xs : List Value} (h : j < xs.length) : (half k j xs).set j (.int .i64 ((k + j : Nat) : Int)) = half k (j + 1) xs := by
  unfold half cellsI
  rw [List.set_append, if_neg (by simp [marksI_length])]
  simp only [List.length_map, marksI_length, Nat.sub_self]
  rw [List.drop_eq_getElem_cons h, List.set_cons_zero]
  simp [marksI, List.range_succ]
theorem half_at {k j : Nat} {xs : List Value} (h : j < xs.length) : ∃ u, (half k j xs)[j]? = some u := ⟨_, List.getElem?_eq_getElem (by rw [half_length (by omega)]; exact h)⟩

set_option maxHeartbeats 1000000 in
theorem mark (B : Nat) (A : Option Addr) (k n c : Nat) (xs : List Value) (w : World) (hk : k + n ≤ 2097152) (h : w.ownsRow B 3 1 (.slice A n c) n xs) :
    Calls Try.prog 14 #[.slice A n c, .int .i64 (k : Int)] w fun e w' => e = .returned (.int .i64 ((k + n : Nat) : Int)) ∧ Below B w w' ∧ w'.ownsRow B 3 1 (.slice A n c) n (cellsI (marksI k n)) := by
  have hl : xs.length = n := by have := h.1; omega
  go_enter Try.func14, Try.ntmps14
  go_wp2
  go_loopw [1, 5] (fun q i wr => ∃ j : Nat, j ≤ n ∧ i = .int .i64 j ∧ q = .int .i64 ((k + j : Nat) : Int) ∧ Below B w wr ∧ wr.ownsRow B 3 1 (.slice A n c) n (half k j xs)) (fun _ i _ => n - (intOf i).toNat)
  case atStart => exact ⟨0, Nat.zero_le _, rfl, rfl, Below.refl _ _, by rw [half_zero]; exact h⟩
  case round =>
    obtain ⟨j, hj, rfl, rfl, hb, hown⟩ := hrel
    have hsz := hb.size
    by_cases hlt : j < n
    · have hform : ∃ g, A = some ⟨g, 0, none⟩ ∧ B ≤ g := by
        rcases hown.2 with ⟨_, h0⟩ | ⟨g, _, _, hv, hg, _⟩
        · omega
        · injection hv with hA; exact ⟨g, hA, hg⟩
      obtain ⟨g, rfl, hBg⟩ := hform
      obtain ⟨u, hu⟩ := half_at (k := k) (xs := xs) (j := j) (by omega)
      have HS := Lib.hid (half_set (k := k) (xs := xs) (j := j) (by omega))
      have hlt2 : (j : Int) < (n : Int) := by omega
      have e1 : ((k + (j + 1) : Nat) : Int) = ((k + j : Nat) : Int) + 1 := by omega
      have E1 := Lib.hid e1
      have HL := Lib.hid hl
      have b1 : ((k + j : Nat) : Int) ≤ 2097152 := by omega
      have b0 : (0 : Int) ≤ ((k + j : Nat) : Int) := by omega
      have hc2 := (hown.cellAt j (by omega)).trans hu
      have hf2 := hown.frozenAt j
      have hst := (hown.stored j (.int .i64 ((k + j : Nat) : Int))).1
      rw [HS.out] at hst
      have HST := Lib.hid hst
      clear h e1 hl hst hu
      generalize ((k + j : Nat) : Int) = m at *
      go_wp2_with fail
      go_roundw
      case rel => exact ⟨j + 1, by omega, by go_num, by rw [E1.out], hb.setCell (p := ⟨g, j, none⟩) hBg _, HST.out⟩
      case measure => simp [intOf]; omega
    · obtain rfl : j = n := by omega
      rw [half_all (by omega)] at hown
      clear h
      go_wp2
      go_ret
      exact ⟨rfl, hb, hown⟩
end Go.Proofs.Ytkndfklbonkbiaa.ints
