/- Mathematics of the laws of chapters 10 and 11: the arrivals of a point fit it, points that fit, send times. -/
import Derived.Test.YtpbopiecfnedgabLoc
namespace Go.Proofs.Ytpbopiecfnedgab.locg
open Go.Proofs.Ytpbopiecfnedgab.in_ Go.Proofs.Ytpbopiecfnedgab.lst Go.Proofs.Ytpbopiecfnedgab.sit Go.Proofs.Ytpbopiecfnedgab.loc

theorem avB_yes {zs : List Int} {n : Nat} {x y t : Int} (h : avB zs n x y t = true) : siB zs n = true ∧ onB x y = true ∧ 0 ≤ t ∧ t ≤ 100000 := by
  unfold avB at h
  rw [Bool.and_eq_true, Bool.and_eq_true] at h
  exact ⟨h.1, h.2.1, of_decide_eq_true h.2.2⟩
theorem av_len {zs : List Int} {n : Nat} {x y t : Int} (h : avB zs n x y t = true) : (avV zs n x y t).length = n := by rw [avV_yes h, avT_length]
theorem av_getD {zs : List Int} {n k : Nat} {x y t : Int} (h : avB zs n x y t = true) (hk : k < n) : (avV zs n x y t).getD k 0 = t + ds zs x y k := by
  rw [avV_yes h, List.getD_eq_getElem?_getD, avT_at hk]; rfl
theorem av_ar {zs : List Int} {n : Nat} {x y t : Int} (h : avB zs n x y t = true) : arB zs n (avV zs n x y t) (avV zs n x y t).length = true := by
  obtain ⟨h1, h2, h3, h4⟩ := avB_yes h
  refine arB_of ?_ h1 (av_len h)
  rw [av_len h]
  refine aiT_of fun k hk => decide_eq_true ?_
  rw [av_getD h hk]
  have := ds_in (siB_yes h1).2.2.1 hk h2
  omega
theorem av_st {zs : List Int} {n k : Nat} {x y t : Int} (h : avB zs n x y t = true) (hk : k < n) : (stT zs (avV zs n x y t) x y n).getD k 0 = t := by
  rw [stT_get hk, av_getD h hk]; omega
theorem av_sp {zs : List Int} {n : Nat} {x y t : Int} (h : avB zs n x y t = true) : sp zs (avV zs n x y t) n x y = 0 := by
  have hn := (siB_yes (avB_yes h).1).1
  have h1 := mnT_in (xs := stT zs (avV zs n x y t) x y n) (k := n - 1) (a := t) (b := t) (fun j hj => by rw [av_st h (by omega)]; omega)
  have h2 := mxT_in (xs := stT zs (avV zs n x y t) x y n) (k := n - 1) (a := t) (b := t) (fun j hj => by rw [av_st h (by omega)]; omega)
  unfold sp; omega
theorem av_stB {zs : List Int} {n : Nat} {x y t : Int} (h : avB zs n x y t = true) : stB zs n (avV zs n x y t) (avV zs n x y t).length x y = true := by
  unfold stB; rw [av_ar h, (avB_yes h).2.1]; rfl
theorem av_sa {zs : List Int} {n : Nat} {x y t : Int} (h : avB zs n x y t = true) : saV zs n (avV zs n x y t) (avV zs n x y t).length x y = 0 := by
  rw [saV_yes (av_stB h), av_sp h]
theorem bp_sa {zs xs : List Int} {n m : Nat} (h : arB zs n xs m = true) : stB zs n xs m (bpX zs n xs m) (bpY zs n xs m) = true ∧ saV zs n xs m (bpX zs n xs m) (bpY zs n xs m) = bpS zs n xs m := by
  obtain ⟨e1, e2, e3⟩ := bp_yes h
  have e : stB zs n xs m (bpX zs n xs m) (bpY zs n xs m) = true := by
    unfold stB
    rw [h, e1, e2, p_on (btT_lt _ _ _ _ (by omega))]; rfl
  exact ⟨e, by rw [saV_yes e, e1, e2, e3]; rfl⟩
theorem av_bp {zs : List Int} {n : Nat} {x y t : Int} (h : avB zs n x y t = true) : bpS zs n (avV zs n x y t) (avV zs n x y t).length = 0 := by
  obtain ⟨h1, h2, h3, h4⟩ := avB_yes h
  have har := av_ar h
  rw [(bp_yes har).2.2]
  obtain ⟨k, hk, kx, ky⟩ := p_of h2
  have hb := btT_best (zs := zs) (xs := avV zs n x y t) (n := n) hk
  have e : sq zs (avV zs n x y t) n k = 0 := by unfold sq; rw [kx, ky, av_sp h]
  have hai := (arB_yes har).1
  rw [av_len h] at hai
  have hp := sp_in (x := pX (btT zs (avV zs n x y t) n 961)) (y := pY (btT zs (avV zs n x y t) n 961)) (siB_yes h1).1 (siB_yes h1).2.2.1 hai (p_on (btT_lt _ _ _ _ (by omega)))
  rw [e] at hb
  have := hp.1
  unfold sq at hb ⊢
  omega

theorem fld_old {L M : List Int} {n i c : Nat} (hl : L.length = n * 2) (hi : i < n) (hc : c < 2) : fld 2 (L ++ M) i c = fld 2 L i c := by
  unfold fld
  rw [List.getD_eq_getElem?_getD, List.getD_eq_getElem?_getD, List.getElem?_append_left (by omega)]
theorem fld_new {L : List Int} {n : Nat} {a b : Int} (hl : L.length = n * 2) : fld 2 (L ++ [a, b]) n 0 = a ∧ fld 2 (L ++ [a, b]) n 1 = b := by
  unfold fld
  constructor
  · rw [List.getD_eq_getElem?_getD, List.getElem?_append_right (by omega), show n * 2 + 0 - L.length = 0 by omega]; rfl
  · rw [List.getD_eq_getElem?_getD, List.getElem?_append_right (by omega), show n * 2 + 1 - L.length = 1 by omega]; rfl
theorem ft_fits {zs xs : List Int} {n k i : Nat} {t : Int} (hk : k ≤ 961) (hi : i < fcT zs xs n t k) : onB (fld 2 (ftT zs xs n t k) i 0) (fld 2 (ftT zs xs n t k) i 1) = true ∧ sp zs xs n (fld 2 (ftT zs xs n t k) i 0) (fld 2 (ftT zs xs n t k) i 1) ≤ t := by
  induction k with
  | zero => exact absurd hi (Nat.not_lt_zero _)
  | succ k ih =>
    by_cases h : sq zs xs n k ≤ t
    · rw [fcT_yes h] at hi
      rw [ftT_yes h]
      by_cases e : i < fcT zs xs n t k
      · rw [fld_old (ft_length _ _ _ _ _) e (by omega), fld_old (ft_length _ _ _ _ _) e (by omega)]
        exact ih (by omega) e
      · obtain rfl : i = fcT zs xs n t k := by omega
        obtain ⟨e1, e2⟩ := fld_new (a := pX k) (b := pY k) (ft_length zs xs n t k)
        rw [e1, e2]
        exact ⟨p_on (by omega), h⟩
    · rw [fcT_no h] at hi
      rw [ftT_no h]
      exact ih (by omega) hi
theorem ft_law {zs xs : List Int} {n m i : Nat} {t : Int} (hi : i < ftN zs n xs m t) :
    stB zs n xs m (fld 2 (ftV zs n xs m t) i 0) (fld 2 (ftV zs n xs m t) i 1) = true ∧ saV zs n xs m (fld 2 (ftV zs n xs m t) i 0) (fld 2 (ftV zs n xs m t) i 1) ≤ t ∧
    (loV zs n xs m t 0 ≤ fld 2 (ftV zs n xs m t) i 0 ∧ fld 2 (ftV zs n xs m t) i 0 ≤ hiV zs n xs m t 0) ∧ loV zs n xs m t 1 ≤ fld 2 (ftV zs n xs m t) i 1 ∧ fld 2 (ftV zs n xs m t) i 1 ≤ hiV zs n xs m t 1 := by
  have hb : fbB zs n xs m t = true := by unfold fbB; exact decide_eq_true (by omega)
  have hl : ltB zs n xs m t = true := by
    cases h : ltB zs n xs m t
    · rw [ftN_no h] at hi; omega
    · rfl
  have hi' := hi
  rw [ftN_yes hl] at hi'
  have hf := ft_fits (Nat.le_refl 961) hi'
  rw [← ftV_yes hl] at hf
  have hs : stB zs n xs m (fld 2 (ftV zs n xs m t) i 0) (fld 2 (ftV zs n xs m t) i 1) = true := by unfold stB; rw [(ltB_yes hl).1, hf.1]; rfl
  refine ⟨hs, by rw [saV_yes hs]; exact hf.2, ?_, ?_⟩
  · rw [lo_yes hb, hi_yes hb]; exact ⟨loT_le (by omega), hiT_ge (by omega)⟩
  · rw [lo_yes hb, hi_yes hb]; exact ⟨loT_le (by omega), hiT_ge (by omega)⟩
theorem il_is (zs : List Int) (n : Nat) (xs : List Int) (m : Nat) (t : Int) : ilV zs n xs m t = ((ftN zs n xs m t : Int) == 1) := by
  unfold ilV
  by_cases h : ftN zs n xs m t = 1
  · rw [h]; rfl
  · rw [decide_eq_false h]; exact (beq_eq_false_iff_ne.mpr (by omega)).symm
theorem fb_is (zs : List Int) (n : Nat) (xs : List Int) (m : Nat) (t : Int) : fbB zs n xs m t = decide ((0 : Int) < (ftN zs n xs m t : Int)) := by
  unfold fbB
  exact decide_eq_decide.mpr (by omega)

/- Arrivals are possible; send times. -/
theorem dist_tri (a b c d x y : Int) : ((dist a b x y - dist c d x y).natAbs : Int) ≤ dist c d a b := by unfold dist; omega
theorem av_tm {zs : List Int} {n : Nat} {x y t : Int} (h : avB zs n x y t = true) : tmB zs n (avV zs n x y t) (avV zs n x y t).length x y = true ∧ tmV zs n (avV zs n x y t) (avV zs n x y t).length x y = t := by
  have e : tmB zs n (avV zs n x y t) (avV zs n x y t).length x y = true := by
    unfold tmB
    rw [av_stB h, av_sp h, av_st h (siB_yes (avB_yes h).1).1, show isIn t 0 100000 = true from decide_eq_true ⟨(avB_yes h).2.2.1, (avB_yes h).2.2.2⟩]; rfl
  exact ⟨e, by rw [tm_yes e, av_st h (siB_yes (avB_yes h).1).1]⟩
theorem tmB_yes {zs xs : List Int} {n m : Nat} {x y : Int} (h : tmB zs n xs m x y = true) : stB zs n xs m x y = true ∧ sp zs xs n x y = 0 ∧ isIn ((stT zs xs x y n).getD 0 0) 0 100000 = true := by
  unfold tmB at h
  rw [Bool.and_eq_true, Bool.and_eq_true] at h
  exact ⟨h.1, of_decide_eq_true h.2.1, h.2.2⟩
/-- A point whose send times are all one number has these arrivals. -/
theorem tm_av {zs xs : List Int} {n m : Nat} {x y : Int} (hl : xs.length = m) (h : tmB zs n xs m x y = true) : avB zs n x y (tmV zs n xs m x y) = true ∧ avV zs n x y (tmV zs n xs m x y) = xs := by
  obtain ⟨h1, h2, h3⟩ := tmB_yes h
  have h1' := h1
  unfold stB at h1
  rw [Bool.and_eq_true] at h1
  obtain ⟨hai, hsi, rfl⟩ := arB_yes h1.1
  have e : tmV zs m xs m x y = (stT zs xs x y m).getD 0 0 := tm_yes h
  rw [e]
  have hb : avB zs m x y ((stT zs xs x y m).getD 0 0) = true := by unfold avB; rw [hsi, h1.2, h3]; rfl
  refine ⟨hb, ?_⟩
  rw [avV_yes hb]
  refine List.ext_getElem? fun k => ?_
  by_cases hk : k < m
  · rw [avT_at hk, List.getElem?_eq_getElem (by omega)]
    have hs : (stT zs xs x y m).getD k 0 = (stT zs xs x y m).getD 0 0 := by
      have a1 := mnT_le (xs := stT zs xs x y m) (k := m - 1) (j := k) (by omega)
      have a2 := mxT_ge (xs := stT zs xs x y m) (k := m - 1) (j := k) (by omega)
      have b1 := mnT_le (xs := stT zs xs x y m) (k := m - 1) (j := 0) (by omega)
      have b2 := mxT_ge (xs := stT zs xs x y m) (k := m - 1) (j := 0) (by omega)
      unfold sp at h2
      omega
    rw [← hs, stT_get hk, List.getD_eq_getElem?_getD, List.getElem?_eq_getElem (by omega)]
    congr 1
    show xs[k] - ds zs x y k + ds zs x y k = xs[k]
    omega
  · rw [List.getElem?_eq_none (by rw [avT_length]; omega), List.getElem?_eq_none (by omega)]
end Go.Proofs.Ytpbopiecfnedgab.locg
