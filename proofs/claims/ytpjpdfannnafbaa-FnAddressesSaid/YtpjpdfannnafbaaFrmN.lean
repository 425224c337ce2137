/- Each frame of a list belongs to just one of its addresses: plain mathematics. -/
import Derived.Test.YtpjpdfannnafbaaFrmA
namespace Go.Proofs.Ytpjpdfannnafbaa.frmn
open Go.Proofs.Ytpjpdfannnafbaa.frmz Go.Proofs.Ytpjpdfannnafbaa.frmw Go.Proofs.Ytpjpdfannnafbaa.frmx Go.Proofs.Ytpjpdfannnafbaa.frmq Go.Proofs.Ytpjpdfannnafbaa.frma

/-- y in an ascending list, once. -/
def ins : List Int → Int → List Int
  | [], y => [y]
  | x :: r, y => if x < y then x :: ins r y else if x = y then x :: r else y :: x :: r
theorem put_ins : ∀ xs y, put xs y = ins xs y
  | [], y => by unfold put lead ins; simp
  | x :: r, y => by
    have ih := put_ins r y
    unfold put at ih ⊢
    unfold ins
    by_cases h : x < y
    · have hl : lead (x :: r) y = lead r y + 1 := by simp only [lead, if_pos h]
      rw [if_pos h, ← ih, hl]
      by_cases hc : lead r y < r.length ∧ r.getD (lead r y) 0 = y
      · rw [if_pos hc, if_pos ⟨by simp; exact hc.1, by simpa using hc.2⟩]
      · rw [if_neg hc, if_neg (fun hh => hc ⟨by simpa using hh.1, by simpa using hh.2⟩)]
        simp
    · have hl : lead (x :: r) y = 0 := by simp only [lead, if_neg h]
      rw [if_neg h, hl]
      by_cases he : x = y
      · rw [if_pos he, if_pos ⟨by simp, by simpa using he⟩]
      · rw [if_neg he, if_neg (fun hh => he (by simpa using hh.2))]
        simp
theorem mem_ins {z : Int} : ∀ {xs : List Int} {y : Int}, z ∈ ins xs y ↔ z ∈ xs ∨ z = y
  | [], y => by simp [ins]
  | x :: r, y => by
    unfold ins
    have ih := mem_ins (z := z) (xs := r) (y := y)
    split
    · rw [List.mem_cons, ih, List.mem_cons, or_assoc]
    · split
      · rename_i he
        subst he
        constructor
        · exact .inl
        · rintro (h | rfl)
          · exact h
          · exact List.mem_cons_self
      · rw [List.mem_cons, or_comm]
theorem ins_asc : ∀ {xs : List Int} {y : Int}, xs.Pairwise (· < ·) → (ins xs y).Pairwise (· < ·)
  | [], y, _ => by simp [ins]
  | x :: r, y, h => by
    rw [List.pairwise_cons] at h
    unfold ins
    split
    · rename_i hx
      rw [List.pairwise_cons]
      refine ⟨fun z hz => ?_, ins_asc h.2⟩
      rcases mem_ins.1 hz with hz | rfl
      · exact h.1 z hz
      · exact hx
    · split
      · exact List.pairwise_cons.2 h
      · refine List.pairwise_cons.2 ⟨fun z hz => ?_, List.pairwise_cons.2 h⟩
        rcases List.mem_cons.1 hz with rfl | hz
        · omega
        · have := h.1 z hz; omega
theorem ad_asc (zs : List Int) : ∀ k, (adT zs k).Pairwise (· < ·)
  | 0 => List.Pairwise.nil
  | k + 1 => by
    show (put (adT zs k) (fld 3 zs k 1)).Pairwise (· < ·)
    rw [put_ins]
    exact ins_asc (ad_asc zs k)
theorem ad_mem {zs : List Int} {a : Int} : ∀ {k : Nat}, a ∈ adT zs k ↔ ∃ j, j < k ∧ fld 3 zs j 1 = a
  | 0 => by
    constructor
    · intro h; cases h
    · rintro ⟨j, hj, _⟩; exact absurd hj (Nat.not_lt_zero _)
  | k + 1 => by
    show a ∈ put (adT zs k) (fld 3 zs k 1) ↔ _
    rw [put_ins, mem_ins, ad_mem]
    constructor
    · rintro (⟨j, hj, e⟩ | rfl)
      · exact ⟨j, by omega, e⟩
      · exact ⟨k, by omega, rfl⟩
    · rintro ⟨j, hj, e⟩
      rcases Nat.lt_or_ge j k with h | h
      · exact .inl ⟨j, h, e⟩
      · obtain rfl : j = k := by omega
        exact .inr e.symm
/-- How many frames the addresses of L have together. -/
def tot (zs : List Int) (k : Nat) (L : List Int) : Nat := (L.map fun a => (foT zs a k).length).sum
theorem tot_zero (zs : List Int) : ∀ L, tot zs 0 L = 0
  | [] => rfl
  | _ :: r => by
    have := tot_zero zs r
    unfold tot at this ⊢
    rw [List.map_cons, List.sum_cons, this]; rfl
theorem tot_other (zs : List Int) (k : Nat) : ∀ L, fld 3 zs k 1 ∉ L → tot zs (k + 1) L = tot zs k L
  | [], _ => rfl
  | a :: r, h => by
    have h2 := tot_other zs k r (fun hh => h (List.mem_cons_of_mem _ hh))
    unfold tot at h2 ⊢
    rw [List.map_cons, List.sum_cons, List.map_cons, List.sum_cons, h2, foT_no (fun e => h (by rw [e]; exact List.mem_cons_self))]
theorem tot_step (zs : List Int) (k : Nat) : ∀ L : List Int, L.Pairwise (· < ·) → fld 3 zs k 1 ∈ L → tot zs (k + 1) L = tot zs k L + 1
  | [], _, h => by cases h
  | a :: r, hp, h => by
    rw [List.pairwise_cons] at hp
    by_cases e : fld 3 zs k 1 = a
    · have h2 := tot_other zs k r (fun hh => by have := hp.1 _ hh; omega)
      unfold tot at h2 ⊢
      rw [List.map_cons, List.sum_cons, List.map_cons, List.sum_cons, h2, foT_yes e, List.length_append]
      simp only [List.length_singleton]
      omega
    · have h2 := tot_step zs k r hp.2 (by rcases List.mem_cons.1 h with h | h; exact absurd h e; exact h)
      unfold tot at h2 ⊢
      rw [List.map_cons, List.sum_cons, List.map_cons, List.sum_cons, h2, foT_no e]
      omega
theorem tot_all (zs : List Int) (n : Nat) (L : List Int) (hp : L.Pairwise (· < ·)) (h : ∀ j, j < n → fld 3 zs j 1 ∈ L) : ∀ k, k ≤ n → tot zs k L = k
  | 0, _ => tot_zero zs L
  | k + 1, hk => by
    rw [tot_step zs k L hp (h k hk), tot_all zs n L hp h k (by omega)]
/-- Together the addresses of a list have all its frames; each has one at least. -/
theorem ad_tot (zs : List Int) (n : Nat) : tot zs n (adT zs n) = n := tot_all zs n _ (ad_asc zs n) (fun j hj => ad_mem.2 ⟨j, hj, rfl⟩) n (Nat.le_refl _)
theorem fo_pos {zs : List Int} {a : Int} : ∀ {n j : Nat}, j < n → fld 3 zs j 1 = a → 0 < (foT zs a n).length
  | 0, _, h, _ => absurd h (Nat.not_lt_zero _)
  | n + 1, j, h, e => by
    by_cases hn : fld 3 zs n 1 = a
    · rw [foT_yes hn, List.length_append]; simp
    · rw [foT_no hn]
      rcases Nat.lt_or_ge j n with hj | hj
      · exact fo_pos hj e
      · obtain rfl : j = n := by omega
        exact absurd e hn
end Go.Proofs.Ytpjpdfannnafbaa.frmn
