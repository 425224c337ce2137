/- Slices of strings: what it is to read as a list of strings, and the contracts of the laws' own helpers eqStringS, markText, markStringS, heldStringS. -/
import Derived.Test.YtdjcbfeilkepmaaOwn
import Derived.Lib.ItoaNum
import Derived.Lib.Strings
import Derived.WalkSpells
import Derived.IntWalk
import Derived.Outline
import Derived.Deep.Draws
import Derived.Lib.ItoaLen
import Derived.Laws.IdiomStrings
import Derived.Lib.QuietBelow
namespace Go.Proofs.Ytdjcbfeilkepmaa.strs
open Go.RowKit

/-- The slice (A, n) reads as the strings xs; nil and empty ones too; it lies below block B. -/
def Rd (w : World) (B : Nat) (A : Option Addr) (n : Nat) (xs : List ByteArray) : Prop :=
  xs.length = n ∧ (0 < n → ∃ b o, A = some ⟨b, o, none⟩ ∧ b < B ∧ ∀ j x, xs[j]? = some x → w.cell? ⟨b, o + j, none⟩ = some (.string x))

theorem Rd.below {w w' : World} {B B' n : Nat} {A : Option Addr} {xs : List ByteArray} (h : Rd w B A n xs) (hb : Below B' w w') (hB : B ≤ B') : Rd w' B A n xs :=
  ⟨h.1, fun hn => by
    obtain ⟨b, o, e, hlt, hc⟩ := h.2 hn
    exact ⟨b, o, e, hlt, fun j x hx => (hb.cell (p := ⟨b, o + j, none⟩) (by exact Nat.lt_of_lt_of_le hlt hB)).trans (hc j x hx)⟩⟩
theorem Rd.more {w : World} {B B' n : Nat} {A : Option Addr} {xs : List ByteArray} (h : Rd w B A n xs) (hB : B ≤ B') : Rd w B' A n xs :=
  ⟨h.1, fun hn => by
    obtain ⟨b, o, e, hlt, hc⟩ := h.2 hn
    exact ⟨b, o, e, by omega, hc⟩⟩

theorem Rd.of_own {w : World} {B e c n : Nat} {A : Option Addr} {xs : List ByteArray} (h : w.ownsRow B e 1 (.slice A n c) xs.length (xs.map Value.string)) (hn : n = xs.length) : Rd w w.heap.size A n xs := by
  refine ⟨hn.symm, fun h0 => ?_⟩
  rcases h.2 with ⟨_, h1⟩ | ⟨g, cap, cur, hv, _, hh, _⟩
  · omega
  · injection hv with hA
    subst hA
    refine ⟨g, 0, rfl, ?_, fun j x hx => ?_⟩
    · rcases Nat.lt_or_ge g w.heap.size with h2 | h2
      · exact h2
      · rw [Array.getElem?_eq_none h2] at hh; cases hh
    · have := h.cells (g := g) rfl j (.string x) (by simp [hx])
      rwa [Addr.add_lit] at this

theorem Rd.at_ {w : World} {B n k : Nat} {A : Option Addr} {xs : List ByteArray} (h : Rd w B A n xs) (hk : k < n) :
    ∃ b o x, A = some ⟨b, o, none⟩ ∧ b < B ∧ xs[k]? = some x ∧ w.cell? ⟨b, o + k, none⟩ = some (.string x) := by
  obtain ⟨b, o, e, hb, hc⟩ := h.2 (by omega)
  have hl : k < xs.length := by rw [h.1]; exact hk
  exact ⟨b, o, xs[k], e, hb, List.getElem?_eq_getElem hl, hc k _ (List.getElem?_eq_getElem hl)⟩

theorem self_ne (x : ByteArray) : (!(x.toList == x.toList)) = false := by simp

set_option maxHeartbeats 400000 in
theorem eq_same (xs : List ByteArray) (A C : Option Addr) (n c d : Nat) (w : World) (hn : n ≤ 1048577) (h1 : Rd w w.heap.size A n xs) (h2 : Rd w w.heap.size C n xs) :
    Calls Try.prog 44 #[.slice A n c, .slice C n d] w fun e w' => e = .returned (.bool true) ∧ ∃ j, w' = w.drewN j := by
  go_enter Try.func44, Try.ntmps44
  go_wp2
  go_loopw [5] (fun i wr => ∃ k j : Nat, k ≤ n ∧ i = .int .i64 k ∧ wr = w.drewN j) (fun i _ => n - (intOf i).toNat)
  case atStart => exact ⟨0, 0, Nat.zero_le _, rfl, rfl⟩
  case round =>
    obtain ⟨k, j, hk, rfl, rfl⟩ := hrel
    by_cases hlt : k < n
    · obtain ⟨b1, o1, x, rfl, _, hx, e1⟩ := h1.at_ hlt
      obtain ⟨b2, o2, y, rfl, _, hy, e2⟩ := h2.at_ hlt
      obtain rfl : x = y := Option.some.inj (hx.symm.trans hy)
      have hlt2 : (k : Int) < (n : Int) := by omega
      have hs := self_ne x
      clear h1 h2 hx hy
      go_wp2_with fail
      go_quiet (fail)
      go_wp2
      go_roundw
      case rel => exact ⟨k + 1, _, by omega, by go_num, by first | rfl | rw [World.drewN_drewN]⟩
      case measure => simp [intOf]; omega
    · clear h1 h2
      go_wp2
      go_ret
      exact ⟨rfl, j, rfl⟩

/-- The mark's text. -/
def mk (k : Nat) : ByteArray := ⟨(109 :: Lib.decDigits k).toArray⟩

theorem dec_step (k : Nat) : (k < 10 ∧ Lib.decDigits k = [UInt8.ofNat (48 + k % 10)]) ∨ (10 ≤ k ∧ Lib.decDigits k = Lib.decDigits (k / 10) ++ [UInt8.ofNat (48 + k % 10)]) := by
  rw [Lib.decDigits]
  split
  · rename_i h1
    exact .inl ⟨h1, by rw [Nat.mod_eq_of_lt h1]⟩
  · exact .inr ⟨by omega, rfl⟩

/-- The last digit. -/
def dgt (k : Nat) : UInt8 := UInt8.ofNat (48 + k % 10)

/-- The loop's relation: what is left of k, and what has come. -/
def MInv (k0 k : Nat) (out : ByteArray) : Prop := (0 < k ∧ Lib.decDigits k ++ out.data.toList = Lib.decDigits k0) ∨ (k = 0 ∧ out.data.toList = Lib.decDigits k0)
theorem minv_step {k0 k : Nat} {out o2 : ByteArray} (h : MInv k0 k out) (hk : 0 < k) (ho : o2.data.toList = dgt k :: out.data.toList) : MInv k0 (k / 10) o2 := by
  rcases h with ⟨_, h⟩ | ⟨h, _⟩
  · rcases dec_step k with ⟨h1, h2⟩ | ⟨h1, h2⟩
    · exact .inr ⟨by omega, by rw [ho, ← h, h2]; rfl⟩
    · exact .inl ⟨by omega, by rw [ho, ← h, h2, List.append_assoc]; rfl⟩
  · omega

theorem minv_size {k0 k : Nat} {out : ByteArray} (h : MInv k0 k out) (hk : k0 ≤ 2097152) : out.size ≤ 21 := by
  have h1 := Lib.itoa_length_le (k0 : Int) (by omega) (by omega)
  have h2 : Lib.itoa (k0 : Int) = Lib.decDigits k0 := by unfold Lib.itoa; rw [if_neg (by omega)]; simp
  rw [h2] at h1
  have h3 : out.size = out.data.toList.length := by simp [← ByteArray.size_data]
  rcases h with ⟨_, h⟩ | ⟨_, h⟩
  · rw [← h, List.length_append] at h1; omega
  · rw [← h] at h1; omega

theorem conv_digit (w : World) (k : Nat) : (convert 22 9 (.slice (some ⟨w.heap.size, 0, none⟩) 1 1)).run Try.prog (w.alloc (.cells #[.int .u8 (48 + (k : Int) % 10)] 5)) = .ok (.string ⟨#[dgt k]⟩) (w.alloc (.cells #[.int .u8 (48 + (k : Int) % 10)] 5)) := by
  refine run_convert_bytes_back _ _ _ 5 _ 1 [dgt k] Try.underlying22 Try.underlying5 Try.underlying9 ?_
  intro j hj
  have h0 : j = 0 := by simpa using hj
  subst h0
  have hb : ((dgt k).toNat : Int) = 48 + (k : Int) % 10 := by unfold dgt; rw [UInt8.toNat_ofNat']; omega
  simp only [List.getElem_cons_zero, hb]
  have := cell_one_new w (.int .u8 (48 + (k : Int) % 10)) 5 0 _ rfl
  simpa using this

set_option maxHeartbeats 400000 in
theorem markText (k0 : Nat) (w : World) (hk : k0 ≤ 2097152) :
    Calls Try.prog 110 #[.int .i64 (k0 : Int)] w fun e w' => e = .returned (.string (mk k0)) ∧ Below w.heap.size w w' := by
  by_cases h0 : k0 = 0
  · subst h0
    have hf : mk 0 = ⟨#[109, 48]⟩ := by unfold mk; rw [Lib.decDigits_one (by omega)]; rfl
    rw [hf]
    clear hf
    go_enter Try.func110, Try.ntmps110
    go_wp2
    go_ret
    exact ⟨rfl, Below.refl _ _⟩
  · have h1 : (0 : Int) < (k0 : Int) := by omega
    go_enter Try.func110, Try.ntmps110
    go_wp2
    go_loopw [0, 3] (fun n o wr => ∃ (k : Nat) (out : ByteArray), k ≤ k0 ∧ n = .int .i64 k ∧ o = .string out ∧ MInv k0 k out ∧ Below w.heap.size w wr) (fun n _ _ => (intOf n).toNat)
    case atStart => exact ⟨k0, ⟨#[]⟩, Nat.le_refl _, rfl, rfl, .inl ⟨by omega, by simp⟩, Below.refl _ _⟩
    case round =>
      obtain ⟨k, out, hkk, rfl, rfl, hinv, hb⟩ := hrel
      have hsz := minv_size hinv hk
      have HI := Lib.hid hinv
      clear hinv
      by_cases hz : 0 < k
      · have hz2 : (0 : Int) < (k : Int) := by omega
        have hcv := conv_digit wr k
        have HN := Lib.hid (minv_step (o2 := ⟨#[dgt k]⟩ ++ out) HI.out hz (by rw [aid.str_app]; rfl))
        go_wp2
        go_roundw
        case rel => exact ⟨k / 10, _, by omega, by go_num, rfl, HN.out, hb.alloc hb.size _⟩
        case measure => simp [intOf]; omega
      · obtain rfl : k = 0 := by omega
        go_wp2
        go_ret
        refine ⟨aid.ret_str (aid.str_ext ?_), hb⟩
        rcases HI.out with ⟨h, _⟩ | ⟨_, h⟩
        · omega
        · rw [aid.str_app, h]; rfl

/-- n marks from k on. -/
def marks (k n : Nat) : List ByteArray := (List.range n).map fun i => mk (k + i)
theorem marks_at {k n i : Nat} (h : i < n) : (marks k n)[i]? = some (mk (k + i)) := by simp [marks, h]
theorem marks_length (k n : Nat) : (marks k n).length = n := by simp [marks]

/-- A row with its first j cells marked. -/
def half (k j : Nat) (xs : List Value) : List Value := (marks k j).map Value.string ++ xs.drop j
theorem half_zero (k : Nat) (xs : List Value) : half k 0 xs = xs := by simp [half, marks]
theorem half_all {k n : Nat} {xs : List Value} (h : xs.length ≤ n) : half k n xs = (marks k n).map Value.string := by
  unfold half; rw [List.drop_eq_nil_of_le h, List.append_nil]
theorem half_length {k j : Nat} {xs : List Value} (h : j ≤ xs.length) : (half k j xs).length = xs.length := by
  unfold half; rw [List.length_append, List.length_map, marks_length, List.length_drop]; omega
theorem half_set {k j : Nat} {xs : List Value} (h : j < xs.length) : (half k j xs).set j (.string (mk (k + j))) = half k (j + 1) xs := by
  unfold half
  rw [List.set_append, if_neg (by simp [marks_length])]
  simp only [List.length_map, marks_length, Nat.sub_self]
  rw [List.drop_eq_getElem_cons h, List.set_cons_zero]
  simp [marks, List.range_succ]
theorem half_at {k j : Nat} {xs : List Value} (h : j < xs.length) : ∃ u, (half k j xs)[j]? = some u := ⟨_, List.getElem?_eq_getElem (by rw [half_length (by omega)]; exact h)⟩

set_option maxHeartbeats 1000000 in
theorem mark (B : Nat) (A : Option Addr) (k n c : Nat) (xs : List Value) (w : World) (hk : k + n ≤ 2097152) (hB : B ≤ w.heap.size) (h : w.ownsRow B 9 1 (.slice A n c) n xs) :
    Calls Try.prog 46 #[.slice A n c, .int .i64 (k : Int)] w fun e w' => e = .returned (.int .i64 ((k + n : Nat) : Int)) ∧ Below B w w' ∧ w'.ownsRow B 9 1 (.slice A n c) n ((marks k n).map Value.string) := by
  have hl : xs.length = n := by have := h.1; omega
  go_enter Try.func46, Try.ntmps46
  go_wp2
  go_loopw [1, 5] (fun q i wr => ∃ j : Nat, j ≤ n ∧ i = .int .i64 j ∧ q = .int .i64 ((k + j : Nat) : Int) ∧ Below B w wr ∧ wr.ownsRow B 9 1 (.slice A n c) n (half k j xs)) (fun _ i _ => n - (intOf i).toNat)
  case atStart => exact ⟨0, Nat.zero_le _, rfl, rfl, Below.refl _ _, by rw [half_zero]; exact h⟩
  case round =>
    obtain ⟨j, hj, rfl, rfl, hb, hown⟩ := hrel
    have hsz := hb.size
    by_cases hlt : j < n
    · have hform : ∃ g, A = some ⟨g, 0, none⟩ ∧ B ≤ g := by
        rcases hown.2 with ⟨_, h0⟩ | ⟨g, _, _, hv, hg, _⟩
        · omega
        · injection hv with hA; exact ⟨g, hA, hg⟩
      obtain ⟨g, rfl, hBg⟩ := hform
      obtain ⟨u, hu⟩ := half_at (k := k) (xs := xs) (j := j) (by omega)
      have HS := Lib.hid (half_set (k := k) (xs := xs) (j := j) (by omega))
      have hlt2 : (j : Int) < (n : Int) := by omega
      have hm := fun w => markText (k + j) w (by omega)
      have e1 : ((k + (j + 1) : Nat) : Int) = ((k + j : Nat) : Int) + 1 := by omega
      have E1 := Lib.hid e1
      have HL := Lib.hid hl
      have b1 : ((k + j : Nat) : Int) ≤ 2097152 := by omega
      generalize mk (k + j) = x at *
      clear h e1 hl
      go_wp2_with (go_at_call 110; refine (hm _).mono ?_; rintro e w2 ⟨rfl, hb2⟩; have hown2 := own_.own_below hown hb2; have hc2 := (hown2.cellAt j (by omega)).trans hu; have hf2 := hown2.frozenAt j)
      have hst := (hown2.stored j (.string x)).1
      rw [HS.out] at hst
      go_roundw
      case rel => exact ⟨j + 1, by omega, by go_num, by rw [E1.out]; go_num, (hb.trans (hb2.mono (Nat.le_trans hB hsz))).setCell (p := ⟨g, j, none⟩) hBg _, hst⟩
      case measure => simp [intOf]; omega
    · obtain rfl : j = n := by omega
      rw [half_all (by omega)] at hown
      clear h
      go_wp2
      go_ret
      exact ⟨rfl, hb, hown⟩

theorem mark1 (B : Nat) (A : Option Addr) (n c : Nat) (xs : List Value) (w : World) (hk : 1 + n ≤ 2097152) (hB : B ≤ w.heap.size) (h : w.ownsRow B 9 1 (.slice A n c) n xs) :
    Calls Try.prog 46 #[.slice A n c, .int .i64 1] w fun e w' => e = .returned (.int .i64 ((1 + n : Nat) : Int)) ∧ Below B w w' ∧ w'.ownsRow B 9 1 (.slice A n c) n ((marks 1 n).map Value.string) := mark B A 1 n c xs w hk hB h
/-- What a law's walk is told of a []string that came in. -/
def IsStrs (W : World) (A : Option Addr) (n : Nat) (xs : List ByteArray) : Prop := Rd W W.heap.size A n xs ∧ n ≤ maxLen ∧ ∀ x ∈ xs, x.size ≤ maxLen
theorem isStrs_nil (W : World) : IsStrs W none 0 [] := ⟨⟨rfl, fun h => absurd h (by omega)⟩, Nat.zero_le _, fun x hx => by simp at hx⟩
theorem isStrs_of {W : World} {a : Addr} {l c : Nat} {ss : List ByteArray} (hl : l ≤ c) (hm : c ≤ maxLen) (hlen : ss.length = c)
    (hcell : ∀ i, i < ss.length → W.cell? (a.add i) = some (.string (ss.getD i ByteArray.empty))) (hws : ∀ s ∈ ss, s.size ≤ maxLen) : IsStrs W (some a) l (ss.take l) := by
  refine ⟨⟨by rw [List.length_take]; omega, fun h0 => ?_⟩, by omega, fun x hx => hws x (List.mem_of_mem_take hx)⟩
  have hc0 := hcell 0 (by omega)
  rw [Addr.add_zero'] at hc0
  obtain ⟨b, o, sp⟩ := a
  obtain rfl : sp = none := World.cell?_spot hc0
  refine ⟨b, o, rfl, World.block_lt_of_cell? _ _ hc0, fun j x hx => ?_⟩
  have hj : j < l := by have := (List.getElem?_eq_some_iff.1 hx).1; rw [List.length_take] at this; omega
  have := hcell j (by omega)
  rw [Addr.add_lit] at this
  rw [this]
  rw [List.getElem?_take, if_pos hj] at hx
  simp [List.getD, hx]
end Go.Proofs.Ytdjcbfeilkepmaa.strs
