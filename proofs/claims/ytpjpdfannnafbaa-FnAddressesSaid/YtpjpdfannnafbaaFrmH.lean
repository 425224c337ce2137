/- What the law of the addresses says of its numbers: plain mathematics. -/
import Derived.Test.YtpjpdfannnafbaaFrmN
import Derived.Test.YtpjpdfannnafbaaFrmM
import Derived.Test.YtpjpdfannnafbaaFrmV
namespace Go.Proofs.Ytpjpdfannnafbaa.frmh
open Go.Proofs.Ytpjpdfannnafbaa.frm Go.Proofs.Ytpjpdfannnafbaa.frmz Go.Proofs.Ytpjpdfannnafbaa.frmw Go.Proofs.Ytpjpdfannnafbaa.frmx Go.Proofs.Ytpjpdfannnafbaa.frma Go.Proofs.Ytpjpdfannnafbaa.frmn Go.Proofs.Ytpjpdfannnafbaa.frmm Go.Proofs.Ytpjpdfannnafbaa.frmv Go.Proofs.Ytpjpdfannnafbaa.in_

theorem num_inj {k a d k' a' d' : Nat} (ha : a ≤ 65535) (hd : d ≤ 16777215) (ha' : a' ≤ 65535) (hd' : d' ≤ 16777215) (h : num k a d = num k' a' d') : k = k' ∧ a = a' ∧ d = d' := by
  unfold num at h
  refine ⟨?_, ?_, ?_⟩ <;> omega
theorem fd_comm (K A D K' A' D' : Int) : fdB K' A' D' K A D = fdB K A D K' A' D' ∧ fdV K' A' D' K A D = fdV K A D K' A' D' := by
  have h : fdB K' A' D' K A D = fdB K A D K' A' D' := by unfold fdB; exact Bool.and_comm _ _
  refine ⟨h, ?_⟩
  unfold fdV
  rw [h, dist_comm]
theorem fd_cases (K A D K' A' D' : Int) : fdB K A D K' A' D' = false ∨ (fdB K A D K' A' D' = true ∧ K = K' ∧ A = A' ∧ D = D' ∧ fdV K A D K' A' D' = 0) ∨
    (fdB K A D K' A' D' = true ∧ 4 ≤ fdV K A D K' A' D' ∧ (K ≠ K' ∨ A ≠ A' ∨ D ≠ D')) := by
  cases h : fdB K A D K' A' D'
  · exact .inl rfl
  · refine .inr ?_
    have hg : good K A D = true ∧ good K' A' D' = true := by
      unfold fdB at h
      rwa [Bool.and_eq_true] at h
    have hv : fdV K A D K' A' D' = dist (numI K A D) (numI K' A' D') := by unfold fdV; rw [h, if_pos rfl]
    rw [hv]
    clear hv h
    obtain ⟨k, a, d, rfl, rfl, rfl, h1, h2, h3, h4, h5⟩ := good_nat hg.1
    obtain ⟨k', a', d', rfl, rfl, rfl, i1, i2, i3, i4, i5⟩ := good_nat hg.2
    have e1 : numI (k : Int) a d = num k a d := by unfold numI; simp
    have e2 : numI (k' : Int) a' d' = num k' a' d' := by unfold numI; simp
    rw [e1, e2]
    by_cases e : num k a d = num k' a' d'
    · obtain ⟨rfl, rfl, rfl⟩ := num_inj h4 h5 i4 i5 e
      exact .inl ⟨rfl, rfl, rfl, rfl, dist_self _⟩
    · refine .inr ⟨rfl, dist_four (num_lt h2 h4 h5) (num_lt i2 i4 i5) e, ?_⟩
      by_cases hk : k = k'
      · by_cases ha : a = a'
        · by_cases hd : d = d'
          · subst hk; subst ha; subst hd; exact absurd rfl e
          · exact .inr (.inr (by omega))
        · exact .inr (.inl (by omega))
      · exact .inl (by omega)

/-- How many frames the first j addresses have together. -/
def cnt (zs : List Int) (n j : Nat) : Nat := (((adV zs n).take j).map fun a => (foV zs n a).length).sum
theorem sum_le (f : Int → Nat) (m : Nat) (hf : ∀ a, f a ≤ m) : ∀ l : List Int, (l.map f).sum ≤ l.length * m
  | [] => by simp
  | a :: r => by
    have h1 := sum_le f m hf r
    have h2 := hf a
    rw [List.map_cons, List.sum_cons, List.length_cons, Nat.succ_mul]
    omega
theorem cnt_le (zs : List Int) (n j : Nat) : cnt zs n j ≤ j * n := by
  have h1 := sum_le (fun a => (foV zs n a).length) n (foV_length zs n) ((adV zs n).take j)
  have h2 : ((adV zs n).take j).length * n ≤ j * n := Nat.mul_le_mul_right n (by rw [List.length_take]; omega)
  exact Nat.le_trans h1 h2
theorem good_in {zs : List Int} {n k : Nat} (h : listB zs n = true) (hk : k < n) : isIn (fld 3 zs k 1) 1 65535 = true := by
  unfold listB at h
  rw [Bool.and_eq_true] at h
  have hg := List.all_eq_true.mp h.2 k (List.mem_range.mpr hk)
  have := good_iff.1 hg
  unfold isIn
  exact decide_eq_true ⟨this.2.2.1, this.2.2.2.1⟩
theorem cnt_step {zs : List Int} {n j : Nat} {a : Int} (ha : (adV zs n)[j]? = some a) : listB zs n = true ∧ foB zs n a = true ∧ 0 < (foV zs n a).length ∧ cnt zs n (j + 1) = cnt zs n j + (foV zs n a).length := by
  have hl : listB zs n = true := by
    cases h : listB zs n
    · rw [ad_no h] at ha; simp at ha
    · rfl
  have hm : a ∈ adT zs n := by rw [← ad_yes hl]; exact List.mem_of_getElem? ha
  obtain ⟨k, hk, e⟩ := ad_mem.1 hm
  have hin := good_in hl hk
  rw [e] at hin
  have hfo : foB zs n a = true := by unfold foB; rw [hl, hin]; rfl
  refine ⟨hl, hfo, ?_, ?_⟩
  · rw [fo_yes hfo]
    exact fo_pos hk e
  · unfold cnt
    rw [List.take_add_one, ha, List.map_append, List.sum_append]
    simp
theorem cnt_end {zs : List Int} {n : Nat} (hl : listB zs n = true) : cnt zs n (adV zs n).length = n := by
  have h := ad_tot zs n
  unfold tot at h
  unfold cnt
  rw [List.take_length, ad_yes hl]
  refine Eq.trans ?_ h
  congr 1
  refine List.map_congr_left fun a ha => ?_
  obtain ⟨k, hk, e⟩ := ad_mem.1 ha
  have hin := good_in hl hk
  rw [e] at hin
  have hfo : foB zs n a = true := by unfold foB; rw [hl, hin]; rfl
  rw [fo_yes hfo]
end Go.Proofs.Ytpjpdfannnafbaa.frmh
