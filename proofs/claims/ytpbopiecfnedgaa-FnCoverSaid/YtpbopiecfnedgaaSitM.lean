/- Mathematics of FnCover: a list without its first site covers no more; contracts of the laws' vHas. -/
import Derived.Test.YtpbopiecfnedgaaSit
import Derived.Test.YtpbopiecfnedgaaSitV
import Derived.Test.YtpbopiecfnedgaaIntC
namespace Go.Proofs.Ytpbopiecfnedgaa.sitm
open Go.RowKit Go.Proofs.Ytpbopiecfnedgaa.ints Go.Proofs.Ytpbopiecfnedgaa.lst Go.Proofs.Ytpbopiecfnedgaa.sit Go.Proofs.Ytpbopiecfnedgaa.in_

theorem drT_zero (zs : List Int) : drT zs 0 = zs.drop 2 := by unfold drT; simp
theorem fld_drop (zs : List Int) (k i : Nat) : fld 2 (zs.drop 2) k i = fld 2 zs (k + 1) i := by
  unfold fld
  rw [List.getD_eq_getElem?_getD, List.getD_eq_getElem?_getD, List.getElem?_drop, show 2 + (k * 2 + i) = (k + 1) * 2 + i by omega]
theorem onT_drop {zs : List Int} {n : Nat} (h : onT zs (n + 1) = true) : onT (zs.drop 2) n = true := by
  induction n with
  | zero => rfl
  | succ n ih =>
    have h' := h
    rw [onT, Bool.and_eq_true] at h
    rw [onT, ih h.1, fld_drop, fld_drop, h.2]; rfl
theorem sameB_drop (zs : List Int) (i k : Nat) : sameB (zs.drop 2) i k = sameB zs (i + 1) (k + 1) := by
  unfold sameB
  rw [fld_drop, fld_drop, fld_drop, fld_drop]
theorem newT_drop {zs : List Int} {i k : Nat} (h : newT zs (i + 1) (k + 1) = true) : newT (zs.drop 2) i k = true := by
  induction k with
  | zero => rfl
  | succ k ih =>
    rw [newT, Bool.and_eq_true] at h
    rw [newT, ih h.1, sameB_drop, h.2]; rfl
theorem difT_drop {zs : List Int} {n : Nat} (h : difT zs (n + 1) = true) : difT (zs.drop 2) n = true := by
  induction n with
  | zero => rfl
  | succ n ih =>
    rw [difT, Bool.and_eq_true] at h
    rw [difT, ih h.1, newT_drop h.2]; rfl
theorem si_drop {zs : List Int} {n : Nat} (h : siB zs n = true) (h2 : 2 ≤ n) : siB (zs.drop 2) (n - 1) = true := by
  obtain ⟨h1, h5, ho, hd⟩ := siB_yes h
  obtain ⟨k, rfl⟩ : ∃ k, n = k + 1 := ⟨n - 1, by omega⟩
  exact siB_of (by omega) (by omega) (onT_drop ho) (difT_drop hd)
theorem cv_drop (zs : List Int) (x y r : Int) (k : Nat) : (cvT (zs.drop 2) x y r k).length ≤ (cvT zs x y r (k + 1)).length := by
  induction k with
  | zero => exact Nat.zero_le _
  | succ k ih =>
    have e : ds (zs.drop 2) x y k = ds zs x y (k + 1) := by unfold ds; rw [fld_drop, fld_drop]
    by_cases h : ds zs x y (k + 1) ≤ r
    · rw [cvT_yes (zs := zs) h, cvT_yes (zs := zs.drop 2) (by rw [e]; exact h), List.length_append, List.length_append]
      simp; omega
    · rw [cvT_no (zs := zs) h, cvT_no (zs := zs.drop 2) (by rw [e]; exact h)]
      exact ih
theorem cN_drop (zs : List Int) (n : Nat) (r : Int) (x y : Nat) (h : 1 ≤ n) : cN (zs.drop 2) (n - 1) r x y ≤ cN zs n r x y := by
  have := cv_drop zs x y r (n - 1)
  rw [show n - 1 + 1 = n by omega] at this
  exact this
theorem cpX_drop (zs : List Int) (n : Nat) (r c : Int) (y x : Nat) (h : 1 ≤ n) : cpX (zs.drop 2) (n - 1) r c y x ≤ cpX zs n r c y x := by
  induction x with
  | zero => exact Nat.le_refl _
  | succ x ih =>
    have hc := cN_drop zs n r x y h
    by_cases h1 : c ≤ (cN (zs.drop 2) (n - 1) r x y : Int)
    · rw [cpX_yes h1, cpX_yes (zs := zs) (by omega)]; omega
    · rw [cpX_no h1]
      by_cases h2 : c ≤ (cN zs n r x y : Int)
      · rw [cpX_yes h2]; omega
      · rw [cpX_no h2]; exact ih
theorem cpY_drop (zs : List Int) (n : Nat) (r c : Int) (y : Nat) (h : 1 ≤ n) : cpY (zs.drop 2) (n - 1) r c y ≤ cpY zs n r c y := by
  induction y with
  | zero => exact Nat.le_refl _
  | succ y ih =>
    have := cpX_drop zs n r c y 31 h
    rw [cpY, cpY]; omega
/-- What FnCover says of a list without its first site. -/
theorem drop_fit {zs : List Int} {n : Nat} {r c : Int} (hd : drB zs n 0 = true) (hc : cpB zs n r c = true) :
    drN zs n 0 = n - 1 ∧ cpB (drV zs n 0) (n - 1) r c = true ∧ cpV (drV zs n 0) (n - 1) r c ≤ cpV zs n r c ∧ 2 ≤ n := by
  obtain ⟨hs, _, _, h2⟩ := drB_yes hd
  have e : drV zs n 0 = zs.drop 2 := by unfold drV; rw [hd]; exact drT_zero zs
  have hN : drN zs n 0 = n - 1 := by unfold drN; rw [hd]; rfl
  have hB : cpB (zs.drop 2) (n - 1) r c = true := by
    unfold cpB at hc ⊢
    rw [Bool.and_eq_true] at hc
    rw [si_drop hs (by omega), hc.2]; rfl
  rw [e, hN]
  refine ⟨rfl, hB, ?_, by omega⟩
  rw [cpV_yes hB, cpV_yes hc]
  have := cpY_drop zs n r c 31 (by omega)
  omega

/-- Is x one of the numbers? -/
def hasL (xs : List Int) (x : Int) : Nat → Bool
  | 0 => false
  | k + 1 => hasL xs x k || decide (xs.getD k 0 = x)
theorem hasL_at {xs : List Int} {x : Int} {n k : Nat} (hk : k < n) (h : xs.getD k 0 = x) : hasL xs x n = true := by
  induction n with
  | zero => omega
  | succ n ih =>
    rw [hasL]
    by_cases e : k = n
    · subst e; rw [decide_eq_true h]; simp
    · rw [ih (by omega)]; rfl
theorem hasL_mem {xs : List Int} {x : Int} {n : Nat} (hn : n ≤ xs.length) (h : hasL xs x n = true) : x ∈ xs := by
  induction n with
  | zero => simp [hasL] at h
  | succ n ih =>
    rw [hasL, Bool.or_eq_true] at h
    rcases h with h | h
    · exact ih (by omega) h
    · have := of_decide_eq_true h
      rw [List.getD_eq_getElem?_getD, List.getElem?_eq_getElem (by omega)] at this
      have e : xs[n] = x := this
      rw [← e]
      exact List.getElem_mem _
theorem mem_hasL {xs : List Int} {x : Int} (h : x ∈ xs) : hasL xs x xs.length = true := by
  obtain ⟨k, hk⟩ := List.mem_iff_getElem?.mp h
  have hl := (List.getElem?_eq_some_iff.1 hk).1
  exact hasL_at hl (by rw [List.getD_eq_getElem?_getD, hk]; rfl)
theorem cvT_mem (zs : List Int) (x y r : Int) (n k : Nat) : (k : Int) ∈ cvT zs x y r n ↔ k < n ∧ ds zs x y k ≤ r := by
  induction n with
  | zero => simp [cvT]
  | succ n ih =>
    by_cases h : ds zs x y n ≤ r
    · rw [cvT_yes h, List.mem_append, ih]
      simp only [List.mem_singleton]
      constructor
      · rintro (⟨h1, h2⟩ | h1)
        · exact ⟨by omega, h2⟩
        · obtain rfl : k = n := by omega
          exact ⟨by omega, h⟩
      · rintro ⟨h1, h2⟩
        by_cases e : k = n
        · right; omega
        · left; exact ⟨by omega, h2⟩
    · rw [cvT_no h, ih]
      constructor
      · rintro ⟨h1, h2⟩; exact ⟨by omega, h2⟩
      · rintro ⟨h1, h2⟩
        refine ⟨?_, h2⟩
        rcases Nat.lt_or_ge k n with h3 | h3
        · exact h3
        · obtain rfl : k = n := by omega
          exact absurd h2 h
/-- The cover of a point holds the sites within reach. -/
theorem has_cover {zs : List Int} {x y r : Int} {n k : Nat} (hk : k < n) : hasL (cvT zs x y r n) k (cvT zs x y r n).length = decide (ds zs x y k ≤ r) := by
  by_cases h : ds zs x y k ≤ r
  · rw [decide_eq_true h]
    exact mem_hasL ((cvT_mem zs x y r n k).mpr ⟨hk, h⟩)
  · rw [decide_eq_false h]
    cases e : hasL (cvT zs x y r n) k (cvT zs x y r n).length with
    | false => rfl
    | true => exact absurd ((cvT_mem zs x y r n k).mp (hasL_mem (Nat.le_refl _) e)).2 h

set_option maxHeartbeats 400000 in
theorem vHas (xs : List Int) (x : Int) (A : Option Addr) (n c : Nat) (w : World) (hn : n ≤ 1048577) (h1 : RdI w w.heap.size A n xs) :
    Calls Try.prog 43 #[.slice A n c, .int .i64 x] w fun e w' => e = .returned (.bool (hasL xs x n)) ∧ w = w' := by
  go_enter Try.func43, Try.ntmps43
  go_wp2
  go_loop [5] (fun i => ∃ k : Nat, k ≤ n ∧ i = .int .i64 k ∧ hasL xs x k = false) (fun i => n - (intOf i).toNat)
  case atStart => exact ⟨0, Nat.zero_le _, rfl, rfl⟩
  case round =>
    obtain ⟨k, hk, rfl, hno⟩ := hrel
    by_cases hlt : k < n
    · obtain ⟨b, o, y, rfl, hbl, hy, hc⟩ := h1.at_ hlt
      have hlt2 : (k : Int) < (n : Int) := by omega
      have hyd : xs.getD k 0 = y := by rw [List.getD_eq_getElem?_getD, hy]; rfl
      have HS := Lib.hid (show hasL xs x (k + 1) = (hasL xs x k || decide (xs.getD k 0 = x)) from rfl)
      rw [hno, hyd] at HS
      have HY := Lib.hid (fun (h : xs.getD k 0 = x) => hasL_at (xs := xs) hlt h)
      rw [hyd] at HY
      clear hyd hy hno h1
      by_cases e : y = x
      · have e1 : (y == x) = true := by simpa using e
        have HE := Lib.hid (HY.out e)
        clear e HY HS
        go_wp2_with fail
        go_ret
        exact ⟨by rw [HE.out]; rfl, rfl⟩
      · have e1 : (y == x) = false := by simpa using e
        have HE := Lib.hid (show hasL xs x (k + 1) = false by rw [HS.out, decide_eq_false e]; rfl)
        clear e HY HS
        go_wp2_with fail
        go_round
        case rel => exact ⟨k + 1, by omega, by go_num, HE.out⟩
        case measure => simp [intOf]; omega
    · obtain rfl : k = n := by omega
      have HO := Lib.hid hno
      clear h1 hno
      go_wp2
      go_ret
      exact ⟨by rw [HO.out]; rfl, rfl⟩
end Go.Proofs.Ytpbopiecfnedgaa.sitm
