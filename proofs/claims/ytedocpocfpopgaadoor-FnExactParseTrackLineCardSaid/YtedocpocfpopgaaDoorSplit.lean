/- spec.l1Split at every string of at most 1048576 bytes: the pieces between the bytes b, in new memory. -/
import Derived.Test.YtedocpocfpopgaaDoorOwn
import Derived.Lib.Strings
import Derived.Lib.IndexBytes
import Derived.OwnWalk
import Derived.Maps.AppendAt
import Derived.WalkSpells
import Derived.Outline
namespace Go.Proofs.YtedocpocfpopgaaDoor.split_
open Go.RowKit

/-- The pieces of a list between the bytes b; 'cur' is what has come of the current one. -/
def pieces (b : UInt8) : List UInt8 → List UInt8 → List (List UInt8)
  | [], cur => [cur]
  | c :: l, cur => if c = b then cur :: pieces b l [] else pieces b l (cur ++ [c])

theorem pieces_length (b : UInt8) : ∀ l cur, (pieces b l cur).length ≤ l.length + 1
  | [], cur => by simp [pieces]
  | c :: l, cur => by
    unfold pieces
    split
    · have := pieces_length b l []; simp; omega
    · have := pieces_length b l (cur ++ [c]); simp; omega

theorem drop_cons (s : ByteArray) (k : Nat) (h : k < s.size) : s.data.toList.drop k = s[k] :: s.data.toList.drop (k + 1) := by
  rw [List.drop_eq_getElem_cons (by simpa using h)]; rfl

theorem take_drop_snoc (s : ByteArray) (f k : Nat) (hf : f ≤ k) (h : k < s.size) : (s.data.toList.take (k + 1)).drop f = (s.data.toList.take k).drop f ++ [s[k]] := by
  have e : s.data.toList.take (k + 1) = s.data.toList.take k ++ [s[k]] := by
    rw [List.take_succ_eq_append_getElem (by simpa using h)]; rfl
  rw [e, List.drop_append_of_le_length (by simp; omega)]

/-- Behind k bytes, the current piece beginning at f: what has come, and what will. -/
def Inv (b : UInt8) (s : ByteArray) (k f : Nat) (xs : List ByteArray) : Prop :=
  xs.map (·.data.toList) ++ pieces b (s.data.toList.drop k) ((s.data.toList.take k).drop f) = pieces b s.data.toList []

theorem inv_start (b : UInt8) (s : ByteArray) : Inv b s 0 0 [] := by simp [Inv]
theorem inv_pass {b : UInt8} {s : ByteArray} {k f : Nat} {xs : List ByteArray} (h : Inv b s k f xs) (hf : f ≤ k) (hk : k < s.size) (hb : ((s[k].toNat : Int) == (b.toNat : Int)) = false) : Inv b s (k + 1) f xs := by
  unfold Inv at *
  rw [← h, drop_cons s k hk, take_drop_snoc s f k hf hk]
  conv => rhs; rw [pieces]
  rw [if_neg]
  intro e; rw [e] at hb; simp at hb
theorem inv_cut {b : UInt8} {s : ByteArray} {k f : Nat} {xs : List ByteArray} (h : Inv b s k f xs) (hk : k < s.size) (hb : ((s[k].toNat : Int) == (b.toNat : Int)) = true) : Inv b s (k + 1) (k + 1) (xs ++ [s.extract f k]) := by
  unfold Inv at *
  have e : s[k] = b := by
    simp only [beq_iff_eq, Int.ofNat_inj] at hb
    exact UInt8.toNat_inj.1 hb
  rw [← h, drop_cons s k hk]
  conv => rhs; rw [pieces, if_pos e]
  have h1 : (s.data.toList.take (k + 1)).drop (k + 1) = [] := List.drop_eq_nil_of_le (by simp; omega)
  rw [h1]
  rw [List.map_append, List.map_cons, List.map_nil, Lib.extract_data, ← List.drop_take]
  simp
theorem inv_end {b : UInt8} {s : ByteArray} {k f : Nat} {xs : List ByteArray} (h : Inv b s k f xs) (hk : s.size ≤ k) : (xs ++ [s.extract f s.size]).map (·.data.toList) = pieces b s.data.toList [] := by
  unfold Inv at h
  rw [← h]
  have h1 : s.data.toList.drop k = [] := List.drop_eq_nil_of_le (by simpa using hk)
  have h2 : s.data.toList.take k = s.data.toList := List.take_of_length_le (by simpa using hk)
  rw [h1, h2, List.map_append, List.map_cons, List.map_nil, Lib.extract_to_end]
  rfl

theorem infoS : (Tryd.prog.info? 9).map (fun i => (i.zero, i.size, i.bytes)) = some (some (.string ⟨#[]⟩), 1, 16) := by kernel_rfl

set_option maxHeartbeats 1000000 in
theorem l1Split (s : ByteArray) (b : UInt8) (w : World) (hs : s.size ≤ 1048576) :
    Calls Tryd.prog 45 #[.string s, .int .u8 b.toNat] w fun e w' => ∃ (v : Value) (xs : List ByteArray), e = .returned v ∧ w'.ownsRow w.heap.size 9 1 v xs.length (xs.map Value.string) ∧ Below w.heap.size w w' ∧ xs.map (·.data.toList) = pieces b s.data.toList [] := by
  obtain ⟨i0, hi, hz0, hz1, hz2⟩ := info_parts infoS
  go_enter Tryd.func45, Tryd.ntmps45
  go_wp2
  go_loopw [5, 6, 7] (fun v fr i wr => ∃ (k f : Nat) (xs : List ByteArray), k ≤ s.size ∧ f ≤ k ∧ xs.length ≤ k ∧ i = .int .i64 k ∧ fr = .int .i64 f ∧ wr.ownsRow w.heap.size 9 1 v xs.length (xs.map Value.string) ∧ Below w.heap.size w wr ∧ Inv b s k f xs)
    (fun _ _ i _ => s.size - (intOf i).toNat)
  case atStart => exact ⟨0, 0, [], Nat.zero_le _, Nat.le_refl _, Nat.le_refl _, rfl, rfl, own_.own_empty w _, (Below.refl _ _).alloc (Nat.le_refl _) _, inv_start b s⟩
  case round =>
    obtain ⟨k, f, xs, hk, hf, hx, rfl, rfl, hown, hb, hinv⟩ := hrel
    have hsz := hb.size
    have HI := Lib.hid hinv
    clear hinv
    by_cases hlt : k < s.size
    · cases he : ((s[k].toNat : Int) == (b.toNat : Int))
      · have HN := Lib.hid (inv_pass HI.out hf hlt he)
        go_wp2
        go_roundw
        case rel => exact ⟨k + 1, f, xs, by omega, by omega, by omega, by go_num, rfl, hown, hb, HN.out⟩
        case measure => simp [intOf]; omega
      · have HN := Lib.hid (inv_cut HI.out hlt he)
        go_wp2_with (at_builtin; refine wpList_append_own _ rfl (.tmp 20) (.tmp 25) 76 rfl w.heap.size 9 i0 (.string ⟨#[]⟩) 1 16 Tryd.underlying76 hi hz0 hz1 hz2 rfl (by decide) _ xs.length (xs.map Value.string) rfl (hown.alloc _) ⟨wr.heap.size, 0, none⟩ 1 1 [.string (s.extract f k)] rfl rfl (cell_one_new _ _ _) (own_.one_cell _ rfl) (by unfold maxLen; omega) (by omega) (by simp; omega) ?_; intro v' w1 hown' hgrow hnil)
        have ho : w1.ownsRow w.heap.size 9 1 v' (xs ++ [s.extract f k]).length ((xs ++ [s.extract f k]).map Value.string) := by simpa using hown'
        have hb' := own_.below_append hb hown hsz hgrow
        clear hown' hgrow hnil hown hb HI he
        go_roundw
        case rel => exact ⟨k + 1, k + 1, xs ++ [s.extract f k], by omega, by omega, by simp; omega, by go_num, by go_num, ho, hb', HN.out⟩
        case measure => simp [intOf]; omega
    · have HN := Lib.hid (inv_end HI.out (by omega))
      go_wp2_with (at_builtin; refine wpList_append_own _ rfl (.tmp 29) (.tmp 33) 76 rfl w.heap.size 9 i0 (.string ⟨#[]⟩) 1 16 Tryd.underlying76 hi hz0 hz1 hz2 rfl (by decide) _ xs.length (xs.map Value.string) rfl (hown.alloc _) ⟨wr.heap.size, 0, none⟩ 1 1 [.string (s.extract f s.size)] rfl rfl (cell_one_new _ _ _) (own_.one_cell _ rfl) (by unfold maxLen; omega) (by omega) (by simp; omega) ?_; intro v' w1 hown' hgrow hnil)
      have ho : w1.ownsRow w.heap.size 9 1 v' (xs ++ [s.extract f s.size]).length ((xs ++ [s.extract f s.size]).map Value.string) := by simpa using hown'
      have hb' := own_.below_append hb hown hsz hgrow
      clear hown' hgrow hnil hown hb HI
      go_ret
      exact ⟨v', _, rfl, ho, hb', HN.out⟩
end Go.Proofs.YtedocpocfpopgaaDoor.split_
