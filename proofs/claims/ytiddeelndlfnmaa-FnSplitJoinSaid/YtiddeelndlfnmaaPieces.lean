/- Splitting and joining are inverse: the pieces of a list between the bytes b, joined with b, are the list; none of them holds b. -/
import Derived.Test.YtiddeelndlfnmaaJoin
import Derived.Test.YtiddeelndlfnmaaSplitImpl
namespace Go.Proofs.Ytiddeelndlfnmaa.split_
open Go.RowKit Go.Proofs.Ytiddeelndlfnmaa.join_ Go.Proofs.Ytiddeelndlfnmaa.strs

theorem pieces_ne (b : UInt8) : ∀ l cur, pieces b l cur ≠ []
  | [], cur => by simp [pieces]
  | c :: l, cur => by
    unfold pieces
    split
    · simp
    · exact pieces_ne b l _

theorem join_pieces (b : UInt8) : ∀ l cur, Lib.join (pieces b l cur) [b] = cur ++ l
  | [], cur => by simp [pieces, Lib.join_one]
  | c :: l, cur => by
    unfold pieces
    split
    · rename_i h
      subst h
      have ih := join_pieces c l []
      have hne := pieces_ne c l []
      generalize pieces c l [] = r at ih hne
      cases r with
      | nil => exact absurd rfl hne
      | cons y r =>
        rw [Lib.join_cons] at ih ⊢
        simp only [Lib.joinTail, List.map_cons, List.flatten_cons] at ih ⊢
        rw [List.append_assoc, ih]
        simp
    · rw [join_pieces b l (cur ++ [c])]; simp

theorem has_snoc (l : List UInt8) (c b : UInt8) : stands_.has (l ++ [c]) b = (stands_.has l b || b == c) := by
  rw [Bool.eq_iff_iff]
  simp [stands_.has, or_comm]

theorem pieces_clean (b : UInt8) : ∀ l cur, stands_.has cur b = false → ∀ p ∈ pieces b l cur, stands_.has p b = false
  | [], cur, h, p, hp => by simp [pieces] at hp; rw [hp]; exact h
  | c :: l, cur, h, p, hp => by
    unfold pieces at hp
    split at hp
    · rcases List.mem_cons.1 hp with rfl | hp
      · exact h
      · exact pieces_clean b l [] rfl p hp
    · rename_i hne
      refine pieces_clean b l (cur ++ [c]) ?_ p hp
      rw [has_snoc, h]
      simp
      exact fun e => hne e.symm

open Classical in
/-- Strings whose texts are the pieces of s: they can be joined, and give s. -/
theorem back {xs : List ByteArray} {s sep : ByteArray} (h0 : 0 < sep.size) (h1 : sep.size = 1) (hs : s.size ≤ 4000) (h : xs.map (·.data.toList) = pieces sep[0] s.data.toList []) :
    jB xs sep = true ∧ jT xs sep = s ∧ weight xs ≤ 4001 := by
  have hh := (head_sep h0 h1).1
  have hne : xs ≠ [] := fun e => pieces_ne sep[0] s.data.toList [] (by rw [← h, e]; rfl)
  have hj : J xs sep[0] = s.data.toList := by unfold J; rw [h, join_pieces]; rfl
  have hcl : clean xs sep[0] := fun x hx => pieces_clean sep[0] s.data.toList [] rfl x.data.toList (by rw [← h]; exact List.mem_map_of_mem hx)
  have hw : weight xs ≤ 4001 := by
    rw [← J_length xs sep[0] hne, hj]
    have : s.data.toList.length = s.size := by simp [← ByteArray.size_data]
    omega
  have hb : jB xs sep = true := by
    unfold jB
    exact decide_eq_true ⟨h1, hne, by rw [hh]; exact hcl, hw⟩
  refine ⟨hb, ?_, hw⟩
  unfold jT
  rw [hb, hh, hj]
  exact aid.str_ext rfl
end Go.Proofs.Ytiddeelndlfnmaa.split_
