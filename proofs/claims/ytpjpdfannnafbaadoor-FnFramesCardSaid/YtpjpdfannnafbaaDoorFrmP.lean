/- The frame with a text: plain mathematics. -/
import Derived.Test.YtpjpdfannnafbaaDoorFrmT
import Derived.Test.YtpjpdfannnafbaaDoorSplit
namespace Go.Proofs.YtpjpdfannnafbaaDoor.frmp
open Go.RowKit Go.Proofs.YtpjpdfannnafbaaDoor.bin Go.Proofs.YtpjpdfannnafbaaDoor.good_ Go.Proofs.YtpjpdfannnafbaaDoor.frm Go.Proofs.YtpjpdfannnafbaaDoor.frmt Go.Proofs.YtpjpdfannnafbaaDoor.split_

theorem pieces_last (b : UInt8) : ∀ (l cur : List UInt8), b ∉ l → pieces b l cur = [cur ++ l]
  | [], cur, _ => by simp [pieces]
  | c :: l, cur, h => by
    rw [pieces, if_neg (fun e => h (by simp [e])), pieces_last b l (cur ++ [c]) (fun e => h (List.mem_cons_of_mem _ e))]
    simp
theorem pieces_cut (b : UInt8) (m : List UInt8) : ∀ (l cur : List UInt8), b ∉ l → pieces b (l ++ b :: m) cur = (cur ++ l) :: pieces b m []
  | [], cur, _ => by simp [pieces]
  | c :: l, cur, h => by
    rw [List.cons_append, pieces, if_neg (fun e => h (by simp [e])), pieces_cut b m l (cur ++ [c]) (fun e => h (List.mem_cons_of_mem _ e))]
    simp
theorem no_space {l : List UInt8} (h : ok 16 l = true) : (32 : UInt8) ∉ l := fun hm => by
  unfold ok at h
  have := List.all_eq_true.1 h 32 hm
  revert this
  decide
theorem wd_space : ∀ k : Fin 5, (32 : UInt8) ∉ (wd k.val).data.toList := by decide
theorem hx_list (n v : Nat) : (hx n v).data.toList = enc 16 n v := rfl
theorem text_list (K A D : Nat) : (textT K A D).data.toList = (wd K).data.toList ++ 32 :: (enc 16 4 A ++ 32 :: enc 16 6 D) := by
  unfold textT
  rw [aid.str_app, aid.str_app, aid.str_app, aid.str_app, hx_list, hx_list]
  simp
theorem text_pieces {K : Nat} (A D : Nat) (hk : K < 5) : pieces 32 (textT K A D).data.toList [] = [(wd K).data.toList, enc 16 4 A, enc 16 6 D] := by
  rw [text_list, pieces_cut 32 _ _ _ (wd_space ⟨K, hk⟩), pieces_cut 32 _ _ _ (no_space (ok_enc 16 (by omega) (by omega) _ _)), pieces_last 32 _ _ (no_space (ok_enc 16 (by omega) (by omega) _ _))]
  rfl

/-- The kind with a word; 0 if there is none. -/
def ix (x : ByteArray) : Nat := if x = wd 1 then 1 else if x = wd 2 then 2 else if x = wd 3 then 3 else if x = wd 4 then 4 else 0
theorem wd_inj : ∀ i j : Fin 5, wd i.val = wd j.val → i = j := by decide
theorem ix_wd {k : Nat} (h1 : 1 ≤ k) (h5 : k < 5) : ix (wd k) = k := by
  match k, h1, h5 with
  | 1, _, _ => rfl
  | 2, _, _ => rfl
  | 3, _, _ => rfl
  | 4, _, _ => rfl
theorem ix_no {x : ByteArray} (h : ∀ k, 1 ≤ k → k < 5 → wd k ≠ x) : ix x = 0 := by
  unfold ix
  rw [if_neg (fun e => h 1 (by omega) (by omega) e.symm), if_neg (fun e => h 2 (by omega) (by omega) e.symm), if_neg (fun e => h 3 (by omega) (by omega) e.symm), if_neg (fun e => h 4 (by omega) (by omega) e.symm)]
theorem ix_le (x : ByteArray) : ix x ≤ 4 := by
  unfold ix
  split; omega; split; omega; split; omega; split <;> omega

/-- What ParseFrameText returns. -/
def word (s : ByteArray) (i : Nat) : ByteArray := ⟨((pieces 32 s.data.toList []).getD i []).toArray⟩
def vK (s : ByteArray) : Nat := ix (word s 0)
def vA (s : ByteArray) : Nat := dec 16 (word s 1).data.toList
def vD (s : ByteArray) : Nat := dec 16 (word s 2).data.toList
def form (s : ByteArray) : Bool := decide (s.size ≤ 30) && (decide ((pieces 32 s.data.toList []).length = 3) && ((rdB 16 16 (word s 1) && rdB 16 16 (word s 2)) && (decide ((word s 1).size = 4) && decide ((word s 2).size = 6))))
def prB (s : ByteArray) : Bool := form s && (good (vK s) (vA s) (vD s) && decide (textT (vK s) (vA s) (vD s) = s))
def prK (s : ByteArray) : Nat := if prB s then vK s else 0
def prA (s : ByteArray) : Nat := if prB s then vA s else 0
def prD (s : ByteArray) : Nat := if prB s then vD s else 0
theorem pr_no {s : ByteArray} (h : prB s = false) : (Value.tuple #[fv 0 0 0, .bool false]) = .tuple #[fv (prK s) (prA s) (prD s), .bool (prB s)] := by unfold prK prA prD; rw [h]; rfl
theorem pr_yes {s : ByteArray} (h : prB s = true) : (Value.tuple #[fv (vK s) (vA s) (vD s), .bool true]) = .tuple #[fv (prK s) (prA s) (prD s), .bool (prB s)] := by unfold prK prA prD; rw [h]; rfl
theorem len_list (s : ByteArray) : s.data.toList.length = s.size := by simp [← ByteArray.size_data]
/-- A frame's text is read as the frame .. -/
theorem pr_text {K A D : Nat} (h : good K A D = true) : prB (textT K A D) = true ∧ prK (textT K A D) = K ∧ prA (textT K A D) = A ∧ prD (textT K A D) = D := by
  have hg := good_iff.1 h
  have hk5 : K < 5 := by omega
  have hp := text_pieces A D hk5
  have w0 : word (textT K A D) 0 = wd K := by unfold word; rw [hp]; rfl
  have w1 : word (textT K A D) 1 = hx 4 A := by unfold word; rw [hp]; rfl
  have w2 : word (textT K A D) 2 = hx 6 D := by unfold word; rw [hp]; rfl
  have k1 : vK (textT K A D) = K := by unfold vK; rw [w0]; exact ix_wd (by omega) hk5
  have k2 : vA (textT K A D) = A := by
    unfold vA; rw [w1, hx_list]
    exact dec_enc 16 (by omega) (by omega) 4 A (by rw [show (16 : Nat) ^ 4 = 65536 from rfl]; omega)
  have k3 : vD (textT K A D) = D := by
    unfold vD; rw [w2, hx_list]
    exact dec_enc 16 (by omega) (by omega) 6 D (by rw [show (16 : Nat) ^ 6 = 16777216 from rfl]; omega)
  have s1 : (hx 4 A).size = 4 := e_size 16 4 A
  have s2 : (hx 6 D).size = 6 := e_size 16 6 D
  have sz : (textT K A D).size ≤ 30 := by
    have hl := congrArg List.length (text_list K A D)
    have hw := wd_size hk5
    rw [len_list] at hl
    simp only [List.length_append, List.length_cons, enc_length, len_list] at hl
    omega
  have r1 : rdB 16 16 (hx 4 A) = true := by unfold rdB; rw [s1, hx_list, ok_enc 16 (by omega) (by omega)]; rfl
  have r2 : rdB 16 16 (hx 6 D) = true := by unfold rdB; rw [s2, hx_list, ok_enc 16 (by omega) (by omega)]; rfl
  have hf : form (textT K A D) = true := by
    unfold form
    rw [w1, w2, r1, r2, s1, s2, hp, decide_eq_true sz]
    rfl
  have hb : prB (textT K A D) = true := by
    unfold prB
    rw [hf, k1, k2, k3, h, decide_eq_true rfl]
    rfl
  unfold prK prA prD
  rw [hb, k1, k2, k3]
  exact ⟨rfl, rfl, rfl, rfl⟩
/-- .. and nothing else is. -/
theorem pr_only {s : ByteArray} (h : prB s = true) : good (prK s) (prA s) (prD s) = true ∧ textT (prK s) (prA s) (prD s) = s := by
  unfold prK prA prD
  rw [h]
  unfold prB at h
  simp only [Bool.and_eq_true, decide_eq_true_eq] at h
  exact h.2
theorem pr_none {s : ByteArray} (h : ∀ K A D : Nat, good K A D = true → textT K A D ≠ s) : prB s = false := by
  cases hb : prB s
  · rfl
  · have := pr_only hb
    exact absurd this.2 (h _ _ _ this.1)
end Go.Proofs.YtpjpdfannnafbaaDoor.frmp
