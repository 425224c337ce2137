/- What chapter 2's laws say, as plain mathematics: numbers and hex texts are recovered, a bit turned twice is as it was, the exclusive or counts the differences. -/
import Derived.Test.YthamflifmpideaaBitsI
namespace Go.Proofs.Ythamflifmpideaa.bitsm
open Go.RowKit Go.Proofs.Ythamflifmpideaa.bin Go.Proofs.Ythamflifmpideaa.good_ Go.Proofs.Ythamflifmpideaa.bitsi

theorem rd_mk {B m : Nat} {s : ByteArray} (h : s.size ≤ m) (ho : ok B s.data.toList = true) : rdB B m s = true := by unfold rdB; rw [ho, decide_eq_true h]; rfl
theorem size_mk (l : List UInt8) : (⟨l.toArray⟩ : ByteArray).size = l.length := by simp [← ByteArray.size_data]

/-- A number from its bits. -/
theorem of_back {n m : Int} (h : bofB n m = true) : rdB 2 30 (bofT n m) = true ∧ (numV (bofT n m) : Int) = n ∧ ((bofT n m).size : Int) = m := by
  have hb := h
  unfold bofB at hb
  have hb := of_decide_eq_true hb
  have e : bofT n m = ⟨(enc 2 m.toNat n.toNat).toArray⟩ := by unfold bofT; rw [h]; rfl
  have hs : (bofT n m).size = m.toNat := by rw [e, size_mk, enc_length]
  have hr : rdB 2 30 (bofT n m) = true := rd_mk (by omega) (by rw [e]; exact ok_enc 2 (by omega) (by omega) _ _)
  refine ⟨hr, ?_, by omega⟩
  unfold numV
  rw [hr, if_pos rfl, e]
  have := dec_enc 2 (by omega) (by omega) m.toNat n.toNat hb.2.2.2
  show ((dec 2 (enc 2 m.toNat n.toNat) : Nat) : Int) = n
  rw [this]
  omega

/-- A bit string from its hex text. -/
theorem hex_back {s : ByteArray} (h : hexB s = true) : rdB 16 16 (hexT s) = true ∧ unhexT (hexT s) = s := by
  have hh := h
  unfold hexB at hh
  rw [Bool.and_eq_true, decide_eq_true_eq] at hh
  obtain ⟨h64, ho⟩ := rd_ok hh.1
  have e : hexT s = ⟨(enc 16 (s.size / 4) (dec 2 s.data.toList)).toArray⟩ := by unfold hexT; rw [h]; rfl
  have hs : (hexT s).size = s.size / 4 := by rw [e, size_mk, enc_length]
  have hr : rdB 16 16 (hexT s) = true := rd_mk (by omega) (by rw [e]; exact ok_enc 16 (by omega) (by omega) _ _)
  refine ⟨hr, ?_⟩
  unfold unhexT
  rw [hr, if_pos rfl, hs, e]
  have h4 : 4 * (s.size / 4) = s.size := by omega
  have hl := dec_lt 2 _ ho
  rw [len_list] at hl
  have hl2 : dec 2 s.data.toList < 16 ^ (s.size / 4) := by
    rw [show (16 : Nat) = 2 ^ 4 from rfl, ← Nat.pow_mul, h4]
    exact hl
  have hd := dec_enc 16 (by omega) (by omega) (s.size / 4) _ hl2
  apply aid.str_ext
  show enc 2 (4 * (s.size / 4)) (dec 16 (enc 16 (s.size / 4) (dec 2 s.data.toList))) = s.data.toList
  rw [hd, h4]
  have := enc_dec 2 (by omega) _ ho
  rw [len_list] at this
  exact this

/-- A hex text from its bit string. -/
theorem unhex_back {u : ByteArray} (h : rdB 16 16 u = true) : hexB (unhexT u) = true ∧ hexT (unhexT u) = u := by
  obtain ⟨h16, ho⟩ := rd_ok h
  have e : unhexT u = ⟨(enc 2 (4 * u.size) (dec 16 u.data.toList)).toArray⟩ := by unfold unhexT; rw [h]; rfl
  have hs : (unhexT u).size = 4 * u.size := by rw [e, size_mk, enc_length]
  have hb : hexB (unhexT u) = true := by
    unfold hexB
    rw [rd_mk (B := 2) (m := 64) (s := unhexT u) (by omega) (by rw [e]; exact ok_enc 2 (by omega) (by omega) _ _), hs, decide_eq_true (by omega)]
    rfl
  refine ⟨hb, ?_⟩
  unfold hexT
  rw [hb, if_pos rfl, hs, e]
  have hl := dec_lt 16 _ ho
  rw [len_list] at hl
  have hl2 : dec 16 u.data.toList < 2 ^ (4 * u.size) := by
    rw [Nat.pow_mul]
    exact hl
  have hd := dec_enc 2 (by omega) (by omega) (4 * u.size) _ hl2
  apply aid.str_ext
  show enc 16 (4 * u.size / 4) (dec 2 (enc 2 (4 * u.size) (dec 16 u.data.toList))) = u.data.toList
  rw [hd, show 4 * u.size / 4 = u.size by omega]
  have := enc_dec 16 (by omega) _ ho
  rw [len_list] at this
  exact this

/-- Bits, one by one. -/
theorem bit_cases {c : UInt8} (h : dv c < 2) : c = 48 ∨ c = 49 := by
  rcases (bit_iff c).1 h with e | e
  · exact Or.inl (UInt8.toNat_inj.1 e)
  · exact Or.inr (UInt8.toNat_inj.1 e)
theorem ok_cons (B : Nat) (c : UInt8) (l : List UInt8) : ok B (c :: l) = (decide (dv c < B) && ok B l) := by unfold ok; rw [List.all_cons]
theorem ones_cons (c : UInt8) (l : List UInt8) : ones (c :: l) = ones l + (if c = 49 then 1 else 0) := by
  unfold ones
  rw [List.countP_cons]
  simp
theorem xor_again : ∀ {l m : List UInt8}, l.length = m.length → ok 2 l = true → ok 2 m = true → List.zipWith df (List.zipWith df l m) m = l
  | [], [], _, _, _ => rfl
  | [], _ :: _, h, _, _ => by simp at h
  | _ :: _, [], h, _, _ => by simp at h
  | a :: l, b :: m, h, h1, h2 => by
    rw [ok_cons, Bool.and_eq_true, decide_eq_true_eq] at h1 h2
    simp only [List.zipWith_cons_cons]
    rw [xor_again (by simpa using h) h1.2 h2.2]
    rcases bit_cases h1.1 with rfl | rfl <;> rcases bit_cases h2.1 with rfl | rfl <;> rfl
theorem xor_ok : ∀ (l m : List UInt8), ok 2 (List.zipWith df l m) = true
  | [], _ => by simp [ok]
  | _ :: _, [] => by simp [ok]
  | a :: l, b :: m => by
    rw [List.zipWith_cons_cons, ok_cons, xor_ok l m]
    have : dv (df a b) < 2 := by
      unfold df
      split <;> decide
    rw [decide_eq_true this]
    rfl
theorem xor_ones : ∀ {l m : List UInt8}, l.length = m.length → ok 2 l = true → ok 2 m = true → ∃ c, ones l + ones m = ones (List.zipWith df l m) + 2 * c
  | [], [], _, _, _ => ⟨0, rfl⟩
  | [], _ :: _, h, _, _ => by simp at h
  | _ :: _, [], h, _, _ => by simp at h
  | a :: l, b :: m, h, h1, h2 => by
    rw [ok_cons, Bool.and_eq_true, decide_eq_true_eq] at h1 h2
    obtain ⟨c, hc⟩ := xor_ones (l := l) (m := m) (by simpa using h) h1.2 h2.2
    simp only [List.zipWith_cons_cons]
    rw [ones_cons, ones_cons, ones_cons]
    rcases bit_cases h1.1 with rfl | rfl <;> rcases bit_cases h2.1 with rfl | rfl
    · exact ⟨c, by simp [df]; omega⟩
    · exact ⟨c, by simp [df]; omega⟩
    · exact ⟨c, by simp [df]; omega⟩
    · exact ⟨c + 1, by simp [df]; omega⟩
theorem df_self (c : UInt8) : df c c = 48 := by unfold df; rw [if_pos rfl]
theorem df_fl {c : UInt8} (h : dv c < 2) : df c (fl c) = 49 := by
  rcases bit_cases h with rfl | rfl <;> rfl
theorem fl_fl {c : UInt8} (h : dv c < 2) : fl (fl c) = c := by
  rcases bit_cases h with rfl | rfl <;> rfl
theorem fl_ok {c : UInt8} : dv (fl c) < 2 := by
  unfold fl
  split <;> decide
theorem self_ones : ∀ l : List UInt8, ones (List.zipWith df l l) = 0
  | [] => rfl
  | c :: l => by rw [List.zipWith_cons_cons, ones_cons, self_ones l, df_self]; rfl
/-- A list and itself with one bit turned. -/
theorem flip_xor : ∀ {l : List UInt8} {i : Nat}, i < l.length → ok 2 l = true → ones (List.zipWith df l (l.set i (fl (l.getD i 0)))) = 1 ∧ (List.zipWith df l (l.set i (fl (l.getD i 0))))[i]? = some 49 ∧ ok 2 (l.set i (fl (l.getD i 0))) = true ∧ (l.set i (fl (l.getD i 0))).set i (fl ((l.set i (fl (l.getD i 0))).getD i 0)) = l
  | [], _, h, _ => absurd h (Nat.not_lt_zero _)
  | c :: l, 0, _, ho => by
    rw [ok_cons, Bool.and_eq_true, decide_eq_true_eq] at ho
    simp only [List.getD_cons_zero, List.set_cons_zero, List.zipWith_cons_cons]
    refine ⟨?_, ?_, ?_, ?_⟩
    · rw [ones_cons, self_ones, df_fl ho.1]; rfl
    · rw [df_fl ho.1]; rfl
    · rw [ok_cons, decide_eq_true fl_ok, ho.2]; rfl
    · rw [fl_fl ho.1]
  | c :: l, i + 1, h, ho => by
    rw [ok_cons, Bool.and_eq_true, decide_eq_true_eq] at ho
    obtain ⟨h1, h2, h3, h4⟩ := flip_xor (l := l) (i := i) (by simpa using h) ho.2
    simp only [List.getD_cons_succ, List.set_cons_succ, List.zipWith_cons_cons]
    refine ⟨?_, ?_, ?_, ?_⟩
    · rw [ones_cons, h1, df_self]; rfl
    · rw [List.getElem?_cons_succ]; exact h2
    · rw [ok_cons, decide_eq_true ho.1, h3]; rfl
    · rw [h4]

/-- One bit turned: turned back; where it differs; how often. -/
theorem flip_back {s : ByteArray} {i : Int} (h : flipB s i = true) :
    ∃ t x : ByteArray, flipV s i = t ∧ flipB t i = true ∧ flipV t i = s ∧ xorB s t = true ∧ xorT s t = x ∧ rdB 2 64 x = true ∧ onesV x = 1 ∧ x.size = s.size ∧ ∀ (hi : i.toNat < x.size), x[i.toNat] = 49 := by
  have hf := h
  unfold flipB at hf
  rw [Bool.and_eq_true, decide_eq_true_eq] at hf
  obtain ⟨hr, h0, h1⟩ := hf
  obtain ⟨h64, ho⟩ := rd_ok hr
  have hi : i.toNat < s.size := by omega
  obtain ⟨a1, a2, a3, a4⟩ := flip_xor (l := s.data.toList) (i := i.toNat) (by rw [len_list]; exact hi) ho
  rw [← flip_list s _ hi] at a1 a2 a3 a4
  have et : flipV s i = flipT s i.toNat := by unfold flipV; rw [h]; rfl
  have hts : (flipT s i.toNat).size = s.size := by
    rw [← len_list, flip_list s _ hi, List.length_set, len_list]
  have htr : rdB 2 64 (flipT s i.toNat) = true := rd_mk (by omega) a3
  have htb : flipB (flipT s i.toNat) i = true := by unfold flipB; rw [htr, hts, decide_eq_true ⟨h0, h1⟩]; rfl
  have hx : xorB s (flipT s i.toNat) = true := by unfold xorB; rw [hr, htr, hts, decide_eq_true rfl]; rfl
  have ex : xorT s (flipT s i.toNat) = ⟨(List.zipWith df s.data.toList (flipT s i.toNat).data.toList).toArray⟩ := by unfold xorT; rw [hx]; rfl
  have hxs : (xorT s (flipT s i.toNat)).size = s.size := by
    rw [ex, size_mk, List.length_zipWith, len_list, len_list, hts]
    omega
  have hxr : rdB 2 64 (xorT s (flipT s i.toNat)) = true := rd_mk (by omega) (by rw [ex]; exact xor_ok _ _)
  refine ⟨_, _, et, htb, ?_, hx, rfl, hxr, ?_, hxs, ?_⟩
  · unfold flipV
    rw [htb, if_pos rfl]
    apply aid.str_ext
    rw [flip_list _ _ (by omega)]
    exact a4
  · unfold onesV
    rw [hxr, if_pos rfl, ex]
    exact a1
  · intro hi2
    have e3 : (xorT s (flipT s i.toNat)).data.toList[i.toNat]? = some 49 := by rw [ex]; exact a2
    have e4 : (xorT s (flipT s i.toNat)).data.toList[i.toNat]? = some (xorT s (flipT s i.toNat))[i.toNat] := by
      rw [List.getElem?_eq_getElem (by rw [len_list]; exact hi2)]; rfl
    rw [e3] at e4
    exact (Option.some.inj e4).symm

/-- The exclusive or: again; the counts. -/
theorem xor_back {a b : ByteArray} (h : xorB a b = true) :
    ∃ x : ByteArray, xorT a b = x ∧ xorB x b = true ∧ xorT x b = a ∧ rdB 2 64 a = true ∧ rdB 2 64 b = true ∧ rdB 2 64 x = true ∧ ∃ c, onesV a + onesV b = onesV x + 2 * c ∧ onesV a ≤ 64 ∧ onesV b ≤ 64 := by
  have hh := h
  unfold xorB at hh
  rw [Bool.and_eq_true, Bool.and_eq_true, decide_eq_true_eq] at hh
  obtain ⟨⟨ha, hb⟩, hs⟩ := hh
  obtain ⟨h64, hoa⟩ := rd_ok ha
  obtain ⟨h64b, hob⟩ := rd_ok hb
  have ex : xorT a b = ⟨(List.zipWith df a.data.toList b.data.toList).toArray⟩ := by unfold xorT; rw [h]; rfl
  have hll : a.data.toList.length = b.data.toList.length := by rw [len_list, len_list, hs]
  have hxs : (xorT a b).size = a.size := by
    rw [ex, size_mk, List.length_zipWith, len_list, len_list]
    omega
  have hxr : rdB 2 64 (xorT a b) = true := rd_mk (by omega) (by rw [ex]; exact xor_ok _ _)
  have hxb : xorB (xorT a b) b = true := by unfold xorB; rw [hxr, hb, hxs, decide_eq_true hs]; rfl
  have hc := xor_ones hll hoa hob
  refine ⟨_, rfl, hxb, ?_, ha, hb, hxr, ?_⟩
  · have e2 : xorT (xorT a b) b = ⟨(List.zipWith df (xorT a b).data.toList b.data.toList).toArray⟩ := by
      have := hxb
      generalize xorT a b = y at *
      unfold xorT
      rw [this]; rfl
    rw [e2]
    apply aid.str_ext
    show List.zipWith df (xorT a b).data.toList b.data.toList = a.data.toList
    rw [ex]
    exact xor_again hll hoa hob
  · obtain ⟨c, hc⟩ := hc
    have o1 : onesV a = ones a.data.toList := by unfold onesV; rw [ha]; rfl
    have o2 : onesV b = ones b.data.toList := by unfold onesV; rw [hb]; rfl
    have o3 : onesV (xorT a b) = ones (List.zipWith df a.data.toList b.data.toList) := by
      unfold onesV; rw [hxr, if_pos rfl, ex]
    have hle : ∀ s : ByteArray, ones s.data.toList ≤ s.size := fun s => by
      rw [← len_list]
      exact List.countP_le_length
    have := hle a
    have := hle b
    exact ⟨c, by rw [o1, o2, o3]; exact hc, by omega, by omega⟩
end Go.Proofs.Ythamflifmpideaa.bitsm
