/- Heights' texts: plain mathematics. -/
import Derived.Test.YtedocpocfpopgaaDoorHgt
import Derived.Test.YtedocpocfpopgaaDoorRead
import Derived.Lib.Strings
namespace Go.Proofs.YtedocpocfpopgaaDoor.hgtt
open Go.RowKit Go.Proofs.YtedocpocfpopgaaDoor.num Go.Proofs.YtedocpocfpopgaaDoor.read Go.Proofs.YtedocpocfpopgaaDoor.hgt

/-- Is a height told as a flight level? Its text. -/
def flB (h : Int) : Bool := decide (10000 ≤ h) && decide (h % 100 = 0)
def fl : ByteArray := ⟨#[70, 76]⟩
def ft : ByteArray := ⟨#[32, 102, 116]⟩
def txH (h : Int) : ByteArray := if flB h then fl ++ txt (h / 100) else txt h ++ ft
def htT (h : Int) : ByteArray := if hB h then txH h else ⟨#[]⟩

/-- What a text may stand for. -/
def pre (s : ByteArray) : Bool := Lib.hasPrefix s.data.toList fl.data.toList
def suf (s : ByteArray) : Bool := Lib.hasSuffix s.data.toList ft.data.toList
def cutP (s : ByteArray) : ByteArray := ⟨(Lib.trimPrefix s.data.toList fl.data.toList).toArray⟩
def cutS (s : ByteArray) : ByteArray := ⟨(Lib.trimSuffix s.data.toList ft.data.toList).toArray⟩
def rdH (s : ByteArray) : Int := if pre s then rdN (cutP s) * 100 else rdN (cutS s)
def phB (s : ByteArray) : Bool := hB (rdH s) && ((txH (rdH s)).toList == s.toList)
def phV (s : ByteArray) : Int := if phB s then rdH s else 0

theorem rdN_bd (s : ByteArray) : -999999 ≤ rdN s ∧ rdN s ≤ 999999 := by
  unfold rdN
  split
  · rename_i h
    obtain ⟨h0, h1, _⟩ := rd_txt h
    exact ⟨h0, h1⟩
  · omega
theorem rdN_txt {n : Int} (h0 : -999999 ≤ n) (h1 : n ≤ 999999) : rdB (txt n) = true ∧ rdN (txt n) = n := by
  obtain ⟨h3, h4⟩ := rd_of_txt (s := txt n) (n := n) h0 h1 (by simp)
  exact ⟨h3, by unfold rdN; rw [h3]; exact h4⟩
theorem hb_bd {h : Int} (hb : hB h = true) : -2000 ≤ h ∧ h ≤ 130000 := by
  unfold hB at hb
  rwa [decide_eq_true_eq] at hb

/-- The first byte of a decimal text is no 'F'. -/
theorem head_txt (n : Int) : ∀ c, (txt n).data.toList.head? = some c → c ≠ 70 := by
  intro c hc
  have e : (txt n).data.toList = Lib.itoa n := rfl
  rw [e] at hc
  unfold Lib.itoa at hc
  split at hc
  · simp at hc
    subst hc
    decide
  · have h1 := (dec_facts n.toNat).2 c (List.mem_of_mem_head? hc)
    intro h2
    subst h2
    simp at h1
theorem pre_fl (t : ByteArray) : pre (fl ++ t) = true ∧ cutP (fl ++ t) = t := by
  have e : (fl ++ t).data.toList = 70 :: 76 :: t.data.toList := by rw [aid.str_app]; rfl
  have h : pre (fl ++ t) = true := by
    unfold pre Lib.hasPrefix
    rw [e]
    simp [fl, List.isPrefixOf]
  refine ⟨h, ?_⟩
  unfold pre at h
  unfold cutP Lib.trimPrefix
  rw [if_pos h]
  refine aid.str_ext ?_
  show List.drop 2 (fl ++ t).data.toList = _
  rw [e]
  rfl
theorem suf_ft (t : ByteArray) : suf (t ++ ft) = true ∧ cutS (t ++ ft) = t := by
  have e : (t ++ ft).data.toList = t.data.toList ++ ft.data.toList := aid.str_app _ _
  have h : suf (t ++ ft) = true := by
    unfold suf Lib.hasSuffix
    rw [e, List.isSuffixOf_iff_suffix]
    exact List.suffix_append _ _
  refine ⟨h, ?_⟩
  unfold suf at h
  unfold cutS Lib.trimSuffix
  rw [if_pos h]
  refine aid.str_ext ?_
  show List.take ((t ++ ft).data.toList.length - ft.data.toList.length) (t ++ ft).data.toList = _
  rw [e, List.length_append, Nat.add_sub_cancel, List.take_left']
  rfl
theorem not_pre (n : Int) : pre (txt n ++ ft) = false := by
  cases h : pre (txt n ++ ft)
  · rfl
  · exfalso
    unfold pre Lib.hasPrefix at h
    rw [List.isPrefixOf_iff_prefix, aid.str_app] at h
    obtain ⟨r, hr⟩ := h
    have h1 : ((txt n).data.toList ++ ft.data.toList).head? = some 70 := by rw [← hr]; rfl
    rw [List.head?_append] at h1
    cases h2 : (txt n).data.toList.head? with
    | none => rw [h2] at h1; simp [ft] at h1
    | some c =>
      rw [h2] at h1
      simp at h1
      exact head_txt n c h2 h1

/-- A height is recovered from its text. -/
theorem rd_tx {h : Int} (hb : hB h = true) : rdH (txH h) = h := by
  obtain ⟨h0, h1⟩ := hb_bd hb
  unfold txH
  cases hf : flB h
  · simp only [Bool.false_eq_true, if_false]
    unfold rdH
    rw [not_pre h]
    simp only [Bool.false_eq_true, if_false]
    rw [(suf_ft _).2]
    exact (rdN_txt (by omega) (by omega)).2
  · simp only [if_true]
    unfold rdH
    rw [(pre_fl _).1]
    simp only [if_true]
    rw [(pre_fl _).2, (rdN_txt (by omega) (by omega)).2]
    unfold flB at hf
    simp at hf
    omega
theorem ph_tx {h : Int} (hb : hB h = true) : phB (txH h) = true ∧ phV (txH h) = h := by
  have e : phB (txH h) = true := by
    unfold phB
    rw [rd_tx hb, hb]
    simp
  exact ⟨e, by unfold phV; rw [e]; exact rd_tx hb⟩
theorem ht_back {h : Int} (hb : hB h = true) : phB (htT h) = true ∧ phV (htT h) = h := by
  have e : htT h = txH h := by unfold htT; rw [hb]; rfl
  rw [e]
  exact ph_tx hb

theorem tx_size {h : Int} (hb : hB h = true) : (txH h).size ≤ 12 := by
  obtain ⟨h0, h1⟩ := hb_bd hb
  have hd : ∀ n : Int, -999999 ≤ n → n ≤ 999999 → (txt n).size ≤ 7 := by
    intro n a b
    show (Lib.itoa n).toArray.size ≤ 7
    rw [List.size_toArray]
    unfold Lib.itoa
    split
    · have := dec_len 6 n.natAbs (by omega) (by omega)
      simp
      omega
    · have := dec_len 6 n.toNat (by omega) (by omega)
      omega
  unfold txH
  split
  · have := hd (h / 100) (by omega) (by omega)
    rw [ByteArray.size_append]
    have e : fl.size = 2 := rfl
    omega
  · have := hd h (by omega) (by omega)
    rw [ByteArray.size_append]
    have e : ft.size = 3 := rfl
    omega
theorem ht_size (h : Int) : (htT h).size ≤ 12 := by
  unfold htT
  cases hb : hB h
  · exact Nat.zero_le _
  · exact tx_size hb

/-- A text that is the text of a height: its forms. -/
theorem ph_yes {s : ByteArray} (h : phB s = true) : hB (rdH s) = true ∧ s = txH (rdH s) ∧ s.size ≤ 12 := by
  unfold phB at h
  simp only [Bool.and_eq_true] at h
  obtain ⟨h1, h2⟩ := h
  have e : txH (rdH s) = s := aid.str_ext (by rw [beq_iff_eq, Lib.toList_data, Lib.toList_data] at h2; exact h2)
  refine ⟨h1, e.symm, ?_⟩
  have := tx_size h1
  rwa [e] at this

/-- What the two forms are made of. -/
theorem ph_forms {s : ByteArray} (h : phB s = true) :
    (pre s = true ∧ rdB (cutP s) = true ∧ rdH s = rdN (cutP s) * 100 ∧ 2 < s.size) ∨ (pre s = false ∧ suf s = true ∧ rdB (cutS s) = true ∧ rdH s = rdN (cutS s) ∧ 3 < s.size) := by
  obtain ⟨h1, h2, h3⟩ := ph_yes h
  obtain ⟨b0, b1⟩ := hb_bd h1
  generalize rdH s = n at *
  have hp : ∀ k : Int, -999999 ≤ k → k ≤ 999999 → 0 < (txt k).size := by
    intro k a b
    show 0 < (Lib.itoa k).toArray.size
    rw [List.size_toArray]
    unfold Lib.itoa
    split
    · simp
    · have := dec_len 6 k.toNat (by omega) (by omega)
      omega
  subst h2
  clear h3
  unfold txH at *
  cases hf : flB n
  · right
    simp only [hf, Bool.false_eq_true, if_false] at *
    have r := rdN_txt (n := n) (by omega) (by omega)
    rw [(suf_ft _).2]
    refine ⟨not_pre n, (suf_ft _).1, r.1, r.2.symm, ?_⟩
    have := hp n (by omega) (by omega)
    rw [ByteArray.size_append]
    have e : ft.size = 3 := rfl
    omega
  · left
    have hm := hf
    unfold flB at hm
    rw [Bool.and_eq_true, decide_eq_true_eq, decide_eq_true_eq] at hm
    simp only [hf, if_true] at *
    have r := rdN_txt (n := n / 100) (by omega) (by omega)
    rw [(pre_fl _).2]
    refine ⟨(pre_fl _).1, r.1, ?_, ?_⟩
    · rw [r.2]
      omega
    · have := hp (n / 100) (by omega) (by omega)
      rw [ByteArray.size_append]
      have e : fl.size = 2 := rfl
      omega
end Go.Proofs.YtedocpocfpopgaaDoor.hgtt
