/- A sealed text is verified, and gives what was sealed; a sealed text in which one byte is another one is never verified. -/
import Derived.Test.YtiddeelndlfnmaaDoorVerify
import Derived.Test.YtiddeelndlfnmaaDoorRead
namespace Go.Proofs.YtiddeelndlfnmaaDoor.flip_
open Go.RowKit Go.Proofs.YtiddeelndlfnmaaDoor.num Go.Proofs.YtiddeelndlfnmaaDoor.sum Go.Proofs.YtiddeelndlfnmaaDoor.stands_ Go.Proofs.YtiddeelndlfnmaaDoor.seal_ Go.Proofs.YtiddeelndlfnmaaDoor.verify Go.Proofs.YtiddeelndlfnmaaDoor.read

theorem step_inj {a b q : Int} (ha : 0 ≤ a ∧ a < 999979) (hb : 0 ≤ b ∧ b < 999979) (h : (41 * a + q + 1) % 999979 = (41 * b + q + 1) % 999979) : a = b := by omega
theorem step_bd (a q : Int) : 0 ≤ (41 * a + q + 1) % 999979 ∧ (41 * a + q + 1) % 999979 < 999979 := by omega

theorem fold_inj : ∀ (l : List UInt8) (a b : Int), (0 ≤ a ∧ a < 999979) → (0 ≤ b ∧ b < 999979) →
    l.foldl (fun h c => (41 * h + (c.toNat : Int) + 1) % 999979) a = l.foldl (fun h c => (41 * h + (c.toNat : Int) + 1) % 999979) b → a = b
  | [], _, _, _, _, h => h
  | _ :: l, _, _, ha, hb, h => step_inj ha hb (fold_inj l _ _ (step_bd _ _) (step_bd _ _) h)

/-- One byte changed: another checksum. -/
theorem sum_set {l : List UInt8} {k : Nat} {c u : UInt8} (hk : l[k]? = some u) (h : sumF (l.set k c) = sumF l) : c = u := by
  obtain ⟨hl, rfl⟩ := List.getElem?_eq_some_iff.1 hk
  have e1 : l = l.take k ++ l[k] :: l.drop (k + 1) := by
    rw [← List.drop_eq_getElem_cons hl, List.take_append_drop]
  have e2 : l.set k c = l.take k ++ c :: l.drop (k + 1) := List.set_eq_take_append_cons_drop .. |>.trans (if_pos hl)
  rw [e2] at h
  conv at h => rhs; rw [e1]
  unfold sumF at h
  rw [List.foldl_append, List.foldl_append, List.foldl_cons, List.foldl_cons] at h
  have hs := sumF_bd (l.take k)
  unfold sumF at hs
  generalize (l.take k).foldl (fun h c => (41 * h + (c.toNat : Int) + 1) % 999979) 7 = m at *
  have := fold_inj _ _ _ (step_bd _ _) (step_bd _ _) h
  have h1 := c.toNat_lt
  have h2 := (l[k]).toNat_lt
  exact UInt8.toNat_inj.1 (by omega)

/-- Two lists of the form 'without 35', 35, 'without 35' that differ in one byte have the 35 at the same place. -/
theorem mark_same {A D A' D' : List UInt8} {k : Nat} {c : UInt8} (hA : ¬ 35 ∈ A) (hA' : ¬ 35 ∈ A') (hD : ¬ 35 ∈ D) (hD' : ¬ 35 ∈ D') (h : (A ++ 35 :: D).set k c = A' ++ 35 :: D') : A.length = A'.length := by
  have at_ : ∀ j, j < (A ++ 35 :: D).length → j ≠ k → (A' ++ 35 :: D')[j]? = (A ++ 35 :: D)[j]? := fun j _ hj => by
    rw [← h, List.getElem?_set_ne (Ne.symm hj)]
  have hlen : (A ++ 35 :: D).length = (A' ++ 35 :: D').length := by rw [← h, List.length_set]
  have m1 : (A ++ 35 :: D)[A.length]? = some 35 := by simp
  have m2 : (A' ++ 35 :: D')[A'.length]? = some 35 := by simp
  simp only [List.length_append, List.length_cons] at hlen
  rcases Nat.lt_trichotomy A.length A'.length with hlt | he | hlt
  · exfalso
    have hk : A.length = k := Classical.byContradiction fun hne => by
      have := at_ A.length (by simp) hne
      rw [m1, List.getElem?_append_left hlt] at this
      exact hA' (List.mem_of_getElem? this)
    have := at_ A'.length (by simp; omega) (by omega)
    rw [m2, List.getElem?_append_right (by omega), List.getElem?_cons] at this
    rw [if_neg (by omega)] at this
    exact hD (List.mem_of_getElem? this.symm)
  · exact he
  · exfalso
    have hk : A'.length = k := Classical.byContradiction fun hne => by
      have := at_ A'.length (by simp; omega) hne
      rw [m2, List.getElem?_append_left hlt] at this
      exact hA (List.mem_of_getElem? this.symm)
    have := at_ A.length (by simp) (by omega)
    rw [m1, List.getElem?_append_right (by omega), List.getElem?_cons] at this
    rw [if_neg (by omega)] at this
    exact hD' (List.mem_of_getElem? this)

theorem txt_inj {a b : Int} (ha : 0 ≤ a ∧ a < 999979) (hb : 0 ≤ b ∧ b < 999979) (h : (txt a).data.toList = (txt b).data.toList) : a = b := by
  rw [← cand_txt a (by omega) (by omega), ← cand_txt b (by omega) (by omega), h]

theorem txt_dig {a : Int} (ha : 0 ≤ a ∧ a < 999979) : ¬ 35 ∈ (txt a).data.toList := by
  have e : (txt a).data.toList = Lib.decDigits a.toNat := by
    show Lib.itoa a = _
    unfold Lib.itoa; rw [if_neg (by omega)]
  rw [e]
  intro h
  have := ((dec_facts a.toNat).2 35 h).1
  simp at this

theorem seal_list (s : ByteArray) : (sealT s).data.toList = s.data.toList ++ 35 :: (txt (sumF s.data.toList)).data.toList := by
  unfold sealT
  rw [aid.str_app, aid.str_app]
  simp

theorem has_mem {l : List UInt8} {b : UInt8} (h : has l b = false) : ¬ b ∈ l := by
  simpa [has] using h

theorem takeWhile_no (l : List UInt8) : ¬ (35 : UInt8) ∈ l.takeWhile (· != 35) := fun h => by
  have := List.all_takeWhile (p := (· != (35 : UInt8))) (l := l)
  rw [List.all_eq_true] at this
  have := this 35 h
  simp at this

theorem body_seal {s : ByteArray} (h : has s.data.toList 35 = false) : body (sealT s) = s := by
  refine aid.str_ext ?_
  rw [body_list, seal_list]
  have h2 := has_mem h
  generalize (txt (sumF s.data.toList)).data.toList = D
  generalize s.data.toList = l at *
  clear h s
  induction l with
  | nil => simp
  | cons a l ih =>
    rw [List.cons_append, List.takeWhile_cons_of_pos]
    · rw [ih]; intro hm; exact h2 (List.mem_cons_of_mem _ hm)
    · simp; intro e; exact h2 (by rw [e]; exact List.mem_cons_self)

/-- What was sealed is verified. -/
theorem good {x : ByteArray} (h : apB x = true) : vfB (apT x) = true ∧ vfT (apT x) = x ∧ apT x = sealT x ∧ (sealT x).size ≤ 4000 ∧ 0 < (sealT x).size ∧ has x.data.toList 35 = false := by
  have h3 := h
  unfold apB at h
  simp only [Bool.and_eq_true, decide_eq_true_eq, Bool.not_eq_true'] at h
  obtain ⟨⟨h0, h1⟩, h2⟩ := h
  have e : apT x = sealT x := by unfold apT; rw [h3]; rfl
  have hv : vfB (sealT x) = true := by
    unfold vfB
    rw [body_seal h1, decide_eq_true h2]
    simp
  refine ⟨by rw [e]; exact hv, ?_, e, by omega, by rw [sealT_size]; omega, h1⟩
  rw [e]
  unfold vfT
  rw [hv, body_seal h1]
  rfl

/-- One byte changed: not verified. -/
theorem bad {x y : ByteArray} {k : Nat} {c u : UInt8} (h : has x.data.toList 35 = false) (hu : (sealT x).data.toList[k]? = some u) (hc : c ≠ u) (hy : y.data.toList = (sealT x).data.toList.set k c) : vfB y = false := by
  cases hv : vfB y
  · rfl
  · exfalso
    unfold vfB at hv
    simp only [Bool.and_eq_true] at hv
    have e := hv.2
    rw [beq_iff_eq, Lib.toList_data, Lib.toList_data, hy, seal_list, seal_list] at e
    have hb := takeWhile_no y.data.toList
    rw [← body_list] at hb
    generalize body y = b at *
    have s1 := sumF_bd x.data.toList
    have s2 := sumF_bd b.data.toList
    have hl := mark_same (has_mem h) hb (txt_dig s1) (txt_dig s2) e.symm
    rw [seal_list] at hu
    by_cases hk : k < x.data.toList.length
    · rw [List.set_append_left _ _ hk] at e
      have e2 := List.append_inj e (by rw [List.length_set]; omega)
      rw [List.getElem?_append_left hk] at hu
      have e3 := (List.cons.inj e2.2).2
      have := txt_inj s2 s1 e3
      rw [e2.1] at this
      exact hc (sum_set hu this)
    · rw [List.set_append_right _ _ (by omega)] at e
      have e2 := List.append_inj e (by omega)
      rw [List.getElem?_append_right (by omega)] at hu
      rw [e2.1] at e2
      have := e2.2
      have hu2 : (35 :: (txt (sumF x.data.toList)).data.toList)[k - x.data.toList.length]? = some c := by
        rw [this, List.getElem?_set_self]
        exact (List.getElem?_eq_some_iff.1 hu).1
      rw [hu] at hu2
      exact hc (Option.some.inj hu2).symm
end Go.Proofs.YtiddeelndlfnmaaDoor.flip_
