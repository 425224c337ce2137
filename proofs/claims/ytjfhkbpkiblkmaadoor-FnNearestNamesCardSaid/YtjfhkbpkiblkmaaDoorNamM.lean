/- Chapter 3, plain mathematics for the laws: names are recovered from their bits and from both parts, letters from their codes. -/
import Derived.Test.YtjfhkbpkiblkmaaDoorNamQ
namespace Go.Proofs.YtjfhkbpkiblkmaaDoor.namm
open Go.RowKit Go.Proofs.YtjfhkbpkiblkmaaDoor.bin Go.Proofs.YtjfhkbpkiblkmaaDoor.good_ Go.Proofs.YtjfhkbpkiblkmaaDoor.bitsi Go.Proofs.YtjfhkbpkiblkmaaDoor.nam Go.Proofs.YtjfhkbpkiblkmaaDoor.namp Go.Proofs.YtjfhkbpkiblkmaaDoor.namq

theorem bits_back {s : ByteArray} (h : nmB s = true) : pbOk (nbA s) = true ∧ pbS (nbA s) = s := by
  obtain ⟨h1, h2⟩ := pn_of (b := (nbA s).data.toList) h rfl
  have hp : pbOk (nbA s) = true := by unfold pbOk; rw [nbA_rd, h1]; rfl
  refine ⟨hp, ?_⟩
  unfold pbS
  rw [hp, if_pos rfl, h2]
theorem part_list (s : ByteArray) (a b : Nat) (hb : b ≤ 48) : ok 2 ((nbA s).extract a b).data.toList = true ∧ ((nbA s).extract a b).data.toList.length = b - a := by
  refine ⟨sub_ok (nbA_ok s) _ _, ?_⟩
  rw [len_list, sub_size _ _ _ (by rw [nbA_size]; exact hb)]
theorem part_enc (s : ByteArray) (a b : Nat) (hb : b ≤ 48) (h : b - a = 24) : enc 2 24 (dec 2 ((nbA s).extract a b).data.toList) = ((nbA s).extract a b).data.toList ∧ dec 2 ((nbA s).extract a b).data.toList < 16777216 := by
  obtain ⟨h1, h2⟩ := part_list s a b hb
  rw [h] at h2
  have h3 := enc_dec 2 (by omega) _ h1
  have h4 := dec_lt 2 _ h1
  rw [h2] at h3 h4
  exact ⟨h3, by rw [show (16777216 : Nat) = 2 ^ 24 by decide +kernel]; exact h4⟩
theorem np_val {s : ByteArray} {p : Int} (h : npB s p = true) : npV s p = dec 2 ((nbA s).extract (24 * p).toNat (24 * p + 24).toNat).data.toList := by unfold npV; rw [h, if_pos rfl]
theorem np_ok {s : ByteArray} (h : nmB s = true) : npB s 0 = true ∧ npB s 1 = true := by
  unfold npB
  rw [h]
  exact ⟨rfl, rfl⟩
theorem join_jt {s : ByteArray} (h : nmB s = true) : jt (npV s 0 : Nat) (npV s 1 : Nat) = nbA s ∧ p24 (npV s 0 : Nat) = true ∧ p24 (npV s 1 : Nat) = true := by
  obtain ⟨h0, h1⟩ := np_ok h
  have e0 : npV s 0 = dec 2 ((nbA s).extract 0 24).data.toList := np_val h0
  have e1 : npV s 1 = dec 2 ((nbA s).extract 24 48).data.toList := np_val h1
  obtain ⟨a0, b0⟩ := part_enc s 0 24 (by omega) rfl
  obtain ⟨a1, b1⟩ := part_enc s 24 48 (by omega) rfl
  rw [← e0] at a0 b0
  rw [← e1] at a1 b1
  refine ⟨?_, decide_eq_true (by omega), decide_eq_true (by omega)⟩
  apply aid.str_ext
  unfold jt
  rw [aid.str_app, Int.toNat_natCast, Int.toNat_natCast]
  show enc 2 24 (npV s 0) ++ enc 2 24 (npV s 1) = _
  rw [a0, a1, sub_list, sub_list]
  show (List.take 24 (List.drop 0 (nbA s).data.toList)) ++ (List.take 24 (List.drop 24 (nbA s).data.toList)) = _
  rw [List.drop_zero]
  have hl : (nbA s).data.toList.length = 48 := nbL_length s.data.toList 8
  rw [List.take_of_length_le (l := List.drop 24 (nbA s).data.toList) (by rw [List.length_drop]; omega), List.take_append_drop]
theorem join_back {s : ByteArray} (h : nmB s = true) : jnB (npV s 0 : Nat) (npV s 1 : Nat) = true ∧ jnS (npV s 0 : Nat) (npV s 1 : Nat) = s := by
  obtain ⟨hj, h0, h1⟩ := join_jt h
  obtain ⟨hp, hs⟩ := bits_back h
  unfold jnB jnS
  rw [hj, h0, h1, hp, hs]
  exact ⟨rfl, rfl⟩
theorem np_bd (s : ByteArray) (p : Int) : (npV s p : Int) ≤ 9223372036854775807 ∨ npB s p = false := by
  cases h : npB s p
  · exact .inr rfl
  · refine .inl ?_
    have hp : 0 ≤ p ∧ p ≤ 1 := by
      unfold npB at h
      rw [Bool.and_eq_true] at h
      exact of_decide_eq_true h.2
    rw [np_val h]
    have := (part_enc s (24 * p).toNat (24 * p + 24).toNat (by omega) (by omega)).2
    omega
theorem code_fin : ∀ n : Fin 256, lcB (n.val : Nat) = true → lfB (lcV (n.val : Nat)) = true ∧ loI (lcV (n.val : Nat)) = (n.val : Nat) := by decide +kernel
theorem code_back {n : Int} (h0 : 0 ≤ n) (h1 : n ≤ 255) (h : lcB n = true) : lfB (lcV n) = true ∧ loI (lcV n) = n := by
  obtain ⟨m, rfl⟩ := Int.eq_ofNat_of_zero_le h0
  exact code_fin ⟨m, by omega⟩ h
end Go.Proofs.YtjfhkbpkiblkmaaDoor.namm
