/- What the changes of chapter 14 leave: the ways of both programs meet (plain mathematics). -/
import Derived.Test.YtfigjfckelichaaGreatDoorTrk
namespace Go.Proofs.YtfigjfckelichaaGreatDoor.trkm
open Go.Proofs.YtfigjfckelichaaGreatDoor.in_ Go.Proofs.YtfigjfckelichaaGreatDoor.lst Go.Proofs.YtfigjfckelichaaGreatDoor.pos Go.Proofs.YtfigjfckelichaaGreatDoor.trk

/-- Track i becomes the numbers r (six, or none). -/
def putR (zs : List Int) (i : Nat) (r : List Int) : List Int := zs.take (i * 6) ++ r ++ zs.drop ((i + 1) * 6)
theorem chL_keep {c : Nat → Option (List Int)} {zs : List Int} {n : Nat} (hl : zs.length = n * 6) : ∀ k, k ≤ n → (∀ j, j < k → c j = some (row zs j)) → chL c k = zs.take (k * 6) := by
  intro k
  induction k with
  | zero => intro _ _; rfl
  | succ k ih =>
    intro hk hc
    rw [chL, ih (by omega) (fun j hj => hc j (by omega)), hc k (by omega), take_row hl (by omega)]; rfl
theorem chL_rest {c : Nat → Option (List Int)} {zs : List Int} {n i : Nat} (hl : zs.length = n * 6) : ∀ k, i + 1 ≤ k → k ≤ n → (∀ j, i < j → j < k → c j = some (row zs j)) → chL c k = chL c (i + 1) ++ (zs.take (k * 6)).drop ((i + 1) * 6) := by
  intro k
  induction k with
  | zero => intro h; omega
  | succ k ih =>
    intro hi hk hc
    rcases Nat.lt_or_ge i k with h | h
    · rw [chL, ih (by omega) (by omega) (fun j h1 h2 => hc j h1 (by omega)), hc k h (by omega), take_row hl (by omega), List.drop_append_of_le_length (by rw [List.length_take]; omega), List.append_assoc]; rfl
    · obtain rfl : k = i := by omega
      rw [List.drop_eq_nil_of_le (by rw [List.length_take]; omega), List.append_nil]
theorem chL_one {c : Nat → Option (List Int)} {zs : List Int} {n i : Nat} {r : List Int} (hl : zs.length = n * 6) (hi : i < n) (hr : c i = some r) (hc : ∀ j, j < n → j ≠ i → c j = some (row zs j)) : chL c n = putR zs i r := by
  rw [chL_rest hl n hi (Nat.le_refl _) (fun j h1 h2 => hc j h2 (by omega)), chL, chL_keep hl i (by omega) (fun j hj => hc j (by omega) (by omega)), hr, ← hl, List.take_length]; rfl
theorem row_at {zs : List Int} {n k : Nat} (h : tvB zs n = true) (hk : k < n) : ∃ s x y g l, some (row zs k) = some (six (fld 6 zs k 0) s x y g l) ∧ tkB (fld 6 zs k 0) s x y g l = true :=
  ⟨_, _, _, _, _, rfl, tv_at h hk⟩
theorem miss_at {zs : List Int} {k : Nat} (ho : missOk zs k = true) : ∃ s x y g l, some (missR zs k) = some (six (fld 6 zs k 0) s x y g l) ∧ tkB (fld 6 zs k 0) s x y g l = true :=
  ⟨_, _, _, _, _, rfl, ho⟩
theorem chN_all {c : Nat → Option (List Int)} {n : Nat} (h : ∀ k, k < n → c k ≠ some []) : chN c n = n := by
  induction n with
  | zero => rfl
  | succ n ih => rw [chN, ih (fun k hk => h k (by omega)), if_neg (h n (by omega))]
theorem chL_congr {c d : Nat → Option (List Int)} {n : Nat} (h : ∀ k, k < n → c k = d k) : chL c n = chL d n ∧ chN c n = chN d n ∧ chD c n = chD d n ∧ chB c n = chB d n := by
  induction n with
  | zero => exact ⟨rfl, rfl, rfl, rfl⟩
  | succ n ih =>
    obtain ⟨h1, h2, h3, h4⟩ := ih (fun k hk => h k (by omega))
    have h5 := h n (by omega)
    exact ⟨by rw [chL, chL, h1, h5], by rw [chN, chN, h2, h5], by rw [chD, chD, h3, h5], by rw [chB, chB, h4, h5]⟩

/- HitTrack. -/
theorem hit_put {zs : List Int} {n i : Nat} {d x y : Int} (hz : tvB zs n = true) (hl : zs.length = n * 6) (hi : i < n) (hd : fld 6 zs i 0 = d) :
    okT (putR zs i (hitR zs x y i)) n = hitOk zs x y i ∧ hiB zs n d x y = hitOk zs x y i ∧ (hitOk zs x y i = true → hiL zs n d x y = putR zs i (hitR zs x y i)) := by
  have hc : ∀ j, j < n → j ≠ i → fld 6 zs j 0 ≠ d := fun j hj hji e => hji (tv_one hz hj hi (by rw [e, hd]))
  have hN : chN (fun j => if j = i then some (hitR zs x y i) else some (row zs j)) n = n := chN_all (fun k hk e => by
    by_cases h : k = i
    · rw [if_pos h] at e; injection e with e; cases e
    · rw [if_neg h] at e; injection e with e; cases e)
  have hP : chL (fun j => if j = i then some (hitR zs x y i) else some (row zs j)) n = putR zs i (hitR zs x y i) := chL_one hl hi (by rw [if_pos rfl]) (fun j _ h => by rw [if_neg h])
  have hB : hiB zs n d x y = chB (hitOne zs d x y) n := by unfold hiB; rw [hz, hasId_of hi hd]; rfl
  cases ho : hitOk zs x y i
  · refine ⟨?_, ?_, fun h => by cases h⟩
    · have := chL_bad (n := n) (k := i) (c := fun j => if j = i then some (hitR zs x y i) else some (row zs j)) (fun j hj => by
        by_cases h : j = i
        · exact ⟨hitR zs x y i, by rw [if_pos h], Or.inr rfl⟩
        · exact ⟨row zs j, by rw [if_neg h], Or.inr rfl⟩) hi (by rw [if_pos rfl]; rfl) ho
      rw [hN, hP] at this; exact this
    · rw [hB]
      refine chB_cut (k := i + 1) ?_ hi
      rw [chB, show hitOne zs d x y i = none by unfold hitOne; rw [if_pos hd, hitC_no ho]]
      exact Bool.and_false _
  · have hC : chB (hitOne zs d x y) n = true := chB_of (fun j hj => by
      unfold hitOne
      by_cases h : j = i
      · rw [h, if_pos hd, hitC_yes ho]; rfl
      · rw [if_neg (hc j hj h)]; rfl)
    refine ⟨?_, by rw [hB, hC], fun _ => ?_⟩
    · have := chL_ok (c := fun j => if j = i then some (hitR zs x y i) else some (row zs j)) hz (fun k hk => by
        by_cases h : k = i
        · subst h; rw [if_pos rfl]; exact Or.inr ⟨_, _, _, _, _, rfl, ho⟩
        · rw [if_neg h]; exact Or.inr (row_at hz hk)) n (Nat.le_refl _)
      rw [hN, hP] at this; exact this.2.1
    · unfold hiL
      rw [hB, hC, if_pos rfl]
      exact chL_one hl hi (by unfold hitOne; rw [if_pos hd, hitC_yes ho]) (fun j hj h => by unfold hitOne; rw [if_neg (hc j hj h)])
theorem hi_no {zs : List Int} {n : Nat} {d x y : Int} (h : hiB zs n d x y = false) : hiL zs n d x y = [] ∧ hiN zs n d x y = 0 := by
  unfold hiL hiN; rw [h]; exact ⟨rfl, rfl⟩
theorem hi_yes {zs : List Int} {n : Nat} {d x y : Int} (h : hiB zs n d x y = true) : hiL zs n d x y = chL (hitOne zs d x y) n ∧ hiN zs n d x y = n := by
  unfold hiL hiN; rw [h]; exact ⟨rfl, rfl⟩
theorem hiN_le (zs : List Int) (n : Nat) (d x y : Int) : hiN zs n d x y ≤ n := by unfold hiN; split <;> omega
theorem hitOne_N {zs : List Int} {n : Nat} {d x y : Int} (h : chB (hitOne zs d x y) n = true) : chN (hitOne zs d x y) n = n := chN_all (fun k hk e => by
  have h1 := chB_at h hk
  unfold hitOne at e
  split at e
  · unfold hitC at e
    split at e
    · injection e with e; cases e
    · cases e
  · injection e with e; cases e)
theorem hiL_length (zs : List Int) (n : Nat) (d x y : Int) : (hiL zs n d x y).length = hiN zs n d x y * 6 := by
  cases h : hiB zs n d x y
  · rw [(hi_no h).1, (hi_no h).2]; rfl
  · rw [(hi_yes h).1, (hi_yes h).2]
    have h1 : chB (hitOne zs d x y) n = true := by unfold hiB at h; rw [Bool.and_eq_true] at h; exact h.2
    rw [chL_length (fits_hitOne zs d x y n) h1, hitOne_N h1]

/- MissTrack. -/
theorem missC_some (zs : List Int) (k : Nat) : (missC zs k).isSome = true := by unfold missC; split <;> rfl
theorem missOne_B (zs : List Int) (d : Int) (n : Nat) : chB (missOne zs d) n = true := chB_of (fun k _ => by unfold missOne; split; exact missC_some zs k; rfl)
theorem miss_put {zs : List Int} {n i : Nat} {d : Int} (hz : tvB zs n = true) (hl : zs.length = n * 6) (hi : i < n) (hd : fld 6 zs i 0 = d) :
    miB zs n d = true ∧ (missOk zs i = true → miL zs n d = putR zs i (missR zs i) ∧ miN zs n d = n) ∧ (missOk zs i = false → miL zs n d = putR zs i [] ∧ miN zs n d = n - 1) := by
  have hc : ∀ j, j < n → j ≠ i → fld 6 zs j 0 ≠ d := fun j hj hji e => hji (tv_one hz hj hi (by rw [e, hd]))
  have hB : miB zs n d = true := by unfold miB; rw [hz, hasId_of hi hd]; rfl
  have hr : ∀ j, j < n → j ≠ i → missOne zs d j = some (row zs j) := fun j hj h => by unfold missOne; rw [if_neg (hc j hj h)]
  refine ⟨hB, fun ho => ?_, fun ho => ?_⟩
  · have hi2 : missOne zs d i = some (missR zs i) := by unfold missOne; rw [if_pos hd, missC_yes ho]
    unfold miL miN
    rw [hB, if_pos rfl, if_pos rfl]
    exact ⟨chL_one hl hi hi2 hr, chN_all (fun k hk e => by
      by_cases h : k = i
      · rw [h, hi2] at e; injection e with e; cases e
      · rw [hr k hk h] at e; injection e with e; cases e)⟩
  · have hi2 : missOne zs d i = some [] := by unfold missOne; rw [if_pos hd, missC_no ho]
    unfold miL miN
    rw [hB, if_pos rfl, if_pos rfl]
    have e1 := chL_one hl hi hi2 hr
    refine ⟨e1, ?_⟩
    have e2 := chL_length (fits_missOne zs d n) (missOne_B zs d n)
    rw [e1] at e2
    unfold putR at e2
    rw [List.append_nil, List.length_append, List.length_take, List.length_drop, hl] at e2
    omega
theorem mi_no {zs : List Int} {n : Nat} {d : Int} (h : miB zs n d = false) : miL zs n d = [] ∧ miN zs n d = 0 := by
  unfold miL miN; rw [h]; exact ⟨rfl, rfl⟩
theorem mi_yes {zs : List Int} {n : Nat} {d : Int} (h : miB zs n d = true) : miL zs n d = chL (missOne zs d) n ∧ miN zs n d = chN (missOne zs d) n := by
  unfold miL miN; rw [h]; exact ⟨rfl, rfl⟩
theorem miN_le (zs : List Int) (n : Nat) (d : Int) : miN zs n d ≤ n := by
  unfold miN; split
  · have := chN_le (missOne zs d) n; omega
  · omega
theorem miL_length (zs : List Int) (n : Nat) (d : Int) : (miL zs n d).length = miN zs n d * 6 := by
  cases h : miB zs n d
  · rw [(mi_no h).1, (mi_no h).2]; rfl
  · rw [(mi_yes h).1, (mi_yes h).2]
    exact chL_length (fits_missOne zs d n) (missOne_B zs d n)

/- ScanTracks. -/
/-- All of the first m places are valid. -/
def plT (ps : List Int) : Nat → Bool
  | 0 => true
  | k + 1 => plT ps k && pB (fld 2 ps k 0) (fld 2 ps k 1)
theorem plT_at {ps : List Int} {m j : Nat} (h : plT ps m = true) (hj : j < m) : pB (fld 2 ps j 0) (fld 2 ps j 1) = true := by
  induction m with
  | zero => omega
  | succ m ih =>
    rw [plT, Bool.and_eq_true] at h
    rcases Nat.lt_or_ge j m with h1 | h1
    · exact ih h.1 h1
    · obtain rfl : j = m := by omega
      exact h.2
theorem asc_lt {ids : List Int} {m : Nat} (h : asB ids m = true) : ∀ i j, i < j → j < m → ids.getD i 0 < ids.getD j 0 := by
  intro i j hij hj
  induction j with
  | zero => omega
  | succ j ih =>
    have h2 := asB_yes h (j + 1) hj (by omega)
    rw [Nat.add_sub_cancel] at h2
    rcases Nat.lt_or_ge i j with h1 | h1
    · have := ih h1 (by omega); omega
    · obtain rfl : i = j := by omega
      exact h2
theorem idx_asc {ids : List Int} {m j : Nat} {d : Int} (h : asB ids m = true) (hj : j < m) (hd : ids.getD j 0 = d) : idx ids d m = j :=
  idx_is hj hd (fun i hi e => by have := asc_lt h i j hi hj; omega)
/-- The ids and places can be scanned. -/
def skB (zs : List Int) (n : Nat) (ids : List Int) (ps : List Int) : Nat → Bool
  | 0 => true
  | j + 1 => skB zs n ids ps j && (hasId zs n (ids.getD j 0) && pB (fld 2 ps j 0) (fld 2 ps j 1))
theorem skB_at {zs ids ps : List Int} {n m j : Nat} (h : skB zs n ids ps m = true) (hj : j < m) : hasId zs n (ids.getD j 0) = true ∧ pB (fld 2 ps j 0) (fld 2 ps j 1) = true := by
  induction m with
  | zero => omega
  | succ m ih =>
    rw [skB, Bool.and_eq_true, Bool.and_eq_true] at h
    rcases Nat.lt_or_ge j m with h1 | h1
    · exact ih h.1 h1
    · obtain rfl : j = m := by omega
      exact h.2
/-- A track after the scan, where a hit need not leave a valid track. -/
def anyC (zs ids : List Int) (m : Nat) (ps : List Int) (k : Nat) : Option (List Int) :=
  if idx ids (fld 6 zs k 0) m < m then some (hitR zs (fld 2 ps (idx ids (fld 6 zs k 0) m) 0) (fld 2 ps (idx ids (fld 6 zs k 0) m) 1) k) else missC zs k
theorem anyC_B (zs ids : List Int) (m : Nat) (ps : List Int) (n : Nat) : chB (anyC zs ids m ps) n = true := chB_of (fun k _ => by unfold anyC; split; rfl; exact missC_some zs k)
theorem fits_any (zs ids : List Int) (m : Nat) (ps : List Int) (n : Nat) : Fits (anyC zs ids m ps) n := fun k _ r h => by
  unfold anyC at h
  split at h
  · injection h with h; subst h; exact Or.inr rfl
  · exact fits_miss h
theorem any_same {zs ids ps : List Int} {m n : Nat} (h : chB (scanC zs ids m ps) n = true) : ∀ k, k < n → anyC zs ids m ps k = scanC zs ids m ps k := by
  intro k hk
  have h1 := chB_at h hk
  unfold anyC scanC at *
  split
  · rename_i h2
    rw [if_pos h2] at h1
    unfold hitC at h1 ⊢
    split at h1
    · rename_i h3; rw [if_pos h3]
    · cases h1
  · rfl
theorem chB_bad {c : Nat → Option (List Int)} {n : Nat} (h : chB c n = false) : ∃ k, k < n ∧ c k = none := by
  induction n with
  | zero => cases h
  | succ n ih =>
    rw [chB] at h
    cases h1 : chB c n
    · obtain ⟨k, hk, e⟩ := ih h1
      exact ⟨k, by omega, e⟩
    · rw [h1, Bool.true_and] at h
      exact ⟨n, by omega, by cases e : c n; rfl; rw [e] at h; cases h⟩
theorem any_ok {zs ids ps : List Int} {m n : Nat} (hz : tvB zs n = true) : okT (chL (anyC zs ids m ps) n) (chN (anyC zs ids m ps) n) = chB (scanC zs ids m ps) n := by
  cases h : chB (scanC zs ids m ps) n
  · obtain ⟨k, hk, e⟩ := chB_bad h
    unfold scanC at e
    split at e
    · rename_i h2
      have ho : hitOk zs (fld 2 ps (idx ids (fld 6 zs k 0) m) 0) (fld 2 ps (idx ids (fld 6 zs k 0) m) 1) k = false := by
        cases hh : hitOk zs (fld 2 ps (idx ids (fld 6 zs k 0) m) 0) (fld 2 ps (idx ids (fld 6 zs k 0) m) 1) k
        · rfl
        · rw [hitC_yes hh] at e; cases e
      exact chL_bad (n := n) (k := k) (fun j hj => by
        obtain ⟨r, hr⟩ := Option.isSome_iff_exists.1 (chB_at (anyC_B zs ids m ps n) hj)
        exact ⟨r, hr, fits_any zs ids m ps n j hj r hr⟩) hk (by unfold anyC; rw [if_pos h2]; rfl) ho
    · have := missC_some zs k
      rw [e] at this; cases this
  · exact (chL_ok (c := anyC zs ids m ps) hz (fun k hk => by
      rw [any_same h k hk]
      have h1 := chB_at h hk
      unfold scanC at h1 ⊢
      split
      · rename_i h2
        rw [if_pos h2] at h1
        unfold hitC at h1 ⊢
        split
        · rename_i h3; exact Or.inr ⟨_, _, _, _, _, rfl, h3⟩
        · rename_i h3; rw [if_neg h3] at h1; cases h1
      · cases ho : missOk zs k
        · rw [missC_no ho]; exact Or.inl rfl
        · rw [missC_yes ho]; exact Or.inr (miss_at ho)) n (Nat.le_refl _)).2.1
theorem any_is {zs ids ps : List Int} {m n : Nat} (h : chB (scanC zs ids m ps) n = true) : chL (anyC zs ids m ps) n = chL (scanC zs ids m ps) n ∧ chN (anyC zs ids m ps) n = chN (scanC zs ids m ps) n ∧ chD (anyC zs ids m ps) n = chD (scanC zs ids m ps) n := by
  have := chL_congr (any_same h)
  exact ⟨this.1, this.2.1, this.2.2.1⟩
/-- Numbers in a range that ascend. -/
def riB (xs : List Int) (a b : Int) : Nat → Bool
  | 0 => true
  | k + 1 => riB xs a b k && (isIn (xs.getD k 0) a b && (decide (k = 0) || decide (xs.getD (k - 1) 0 < xs.getD k 0)))
theorem riB_all {xs : List Int} {a b : Int} {n : Nat} (h : riB xs a b n = true) : ∀ k, k < n → (a ≤ xs.getD k 0 ∧ xs.getD k 0 ≤ b) ∧ (0 < k → xs.getD (k - 1) 0 < xs.getD k 0) := by
  induction n with
  | zero => intro k hk; omega
  | succ m ih =>
    intro k hk
    rw [riB, Bool.and_eq_true, Bool.and_eq_true, Bool.or_eq_true] at h
    rcases Nat.lt_or_ge k m with h1 | h1
    · exact ih h.1 k h1
    · obtain rfl : k = m := by omega
      refine ⟨isIn_yes h.2.1, fun h0 => ?_⟩
      rcases h.2.2 with h2 | h2
      · have := of_decide_eq_true h2; omega
      · exact of_decide_eq_true h2
theorem riB_of {xs : List Int} {a b : Int} {n : Nat} (h : ∀ k, k < n → (a ≤ xs.getD k 0 ∧ xs.getD k 0 ≤ b) ∧ (0 < k → xs.getD (k - 1) 0 < xs.getD k 0)) : riB xs a b n = true := by
  induction n with
  | zero => rfl
  | succ m ih =>
    rw [riB, ih (fun k hk => h k (by omega)), isIn_of (h m (by omega)).1.1 (h m (by omega)).1.2, Bool.true_and, Bool.true_and]
    rcases Nat.eq_zero_or_pos m with h0 | h0
    · rw [decide_eq_true h0]; rfl
    · rw [decide_eq_true ((h m (by omega)).2 h0), Bool.or_true]
theorem riB_cut {xs : List Int} {a b : Int} {n k : Nat} (h : riB xs a b k = false) (hk : k ≤ n) : riB xs a b n = false := by
  cases hq : riB xs a b n
  · rfl
  · have := riB_of (fun j hj => riB_all hq j (by omega)) (n := k)
    rw [h] at this; cases this
theorem riB_as {xs : List Int} {a b : Int} {n : Nat} (h : riB xs a b n = true) : asB xs n = true := decide_eq_true (fun k hk h0 => (riB_all h k hk).2 h0)
/-- What spec asks ahead of a scan. -/
def spB (zs : List Int) (n : Nat) (ids : List Int) (m : Nat) (ps : List Int) (q : Nat) : Bool := tvB zs n && (decide (m = q) && (riB ids 1 999 m && skB zs n ids ps m))
theorem sc_no {zs ids ps : List Int} {n m q : Nat} (h : spB zs n ids m ps q = false) : scB zs n ids m ps q = false := by
  cases hs : scB zs n ids m ps q
  · rfl
  · exfalso
    unfold scB haB at hs
    rw [Bool.and_eq_true, Bool.and_eq_true, Bool.and_eq_true, Bool.and_eq_true] at hs
    obtain ⟨h1, h2, ⟨h3, h4⟩, h5⟩ := hs
    have hid : ∀ j, j < m → ∃ k, k < n ∧ fld 6 zs k 0 = ids.getD j 0 := fun j hj => by
      obtain ⟨k, hk, e, _⟩ := hasId_yes (hasAll_at h4 hj)
      exact ⟨k, hk, e⟩
    have hr : riB ids 1 999 m = true := riB_of (fun j hj => ⟨by
      obtain ⟨k, hk, e⟩ := hid j hj
      rw [← e]; exact (tkB_yes (tv_at h3 hk)).1, fun h0 => asB_yes h2 j hj h0⟩)
    have hsk : ∀ j, j ≤ m → skB zs n ids ps j = true := by
      intro j
      induction j with
      | zero => intro _; rfl
      | succ j ih =>
        intro hj
        have hp : pB (fld 2 ps j 0) (fld 2 ps j 1) = true := by
          obtain ⟨k, hk, e⟩ := hid j (by omega)
          have h6 := chB_at h5 hk
          unfold scanC at h6
          rw [idx_asc h2 (show j < m by omega) e.symm, if_pos (by omega)] at h6
          unfold hitC at h6
          split at h6
          · rename_i h7
            exact (tkB_yes h7).2.1
          · cases h6
        rw [skB, ih (by omega), hasAll_at h4 (by omega), hp]; rfl
    unfold spB at h
    rw [h3, h1, hr, hsk m (Nat.le_refl _)] at h
    cases h
theorem sc_is {zs ids ps : List Int} {n m q : Nat} (h : spB zs n ids m ps q = true) : scB zs n ids m ps q = chB (scanC zs ids m ps) n ∧ tvB zs n = true ∧ m = q ∧ asB ids m = true := by
  unfold spB at h
  rw [Bool.and_eq_true, Bool.and_eq_true, Bool.and_eq_true] at h
  obtain ⟨h1, h2, h3, h4⟩ := h
  refine ⟨?_, h1, of_decide_eq_true h2, riB_as h3⟩
  unfold scB haB
  rw [h2, riB_as h3, h1, hasAll_of (fun j hj => (skB_at h4 hj).1)]; rfl
theorem scan_no {zs ids ps : List Int} {n m q : Nat} (h : scB zs n ids m ps q = false) : scL zs n ids m ps q = [] ∧ scN zs n ids m ps q = 0 ∧ scD zs n ids m ps q = 0 := by
  unfold scL scN scD; rw [h]; exact ⟨rfl, rfl, rfl⟩
theorem scan_yes {zs ids ps : List Int} {n m q : Nat} (h : scB zs n ids m ps q = true) : scL zs n ids m ps q = chL (scanC zs ids m ps) n ∧ scN zs n ids m ps q = chN (scanC zs ids m ps) n ∧ scD zs n ids m ps q = chD (scanC zs ids m ps) n := by
  unfold scL scN scD; rw [h]; exact ⟨rfl, rfl, rfl⟩
theorem scN_le (zs : List Int) (n : Nat) (ids : List Int) (m : Nat) (ps : List Int) (q : Nat) : scN zs n ids m ps q ≤ n := by
  unfold scN; split
  · have := chN_le (scanC zs ids m ps) n; omega
  · omega
theorem scL_length (zs : List Int) (n : Nat) (ids : List Int) (m : Nat) (ps : List Int) (q : Nat) : (scL zs n ids m ps q).length = scN zs n ids m ps q * 6 := by
  cases h : scB zs n ids m ps q
  · rw [(scan_no h).1, (scan_no h).2.1]; rfl
  · rw [(scan_yes h).1, (scan_yes h).2.1]
    refine chL_length (fits_scan zs ids m ps n) ?_
    unfold scB at h
    rw [Bool.and_eq_true, Bool.and_eq_true, Bool.and_eq_true] at h
    exact h.2.2.2

/- StartTrack. -/
theorem st_no {zs : List Int} {n : Nat} {x y : Int} (h : stB zs n x y = false) : stL zs n x y = [] ∧ stN zs n x y = 0 ∧ stI zs n x y = 0 := by
  unfold stL stN stI; rw [h]; exact ⟨rfl, rfl, rfl⟩
theorem st_yes {zs : List Int} {n : Nat} {x y : Int} (h : stB zs n x y = true) : stL zs n x y = stR zs n x y ∧ stN zs n x y = n + 1 ∧ stI zs n x y = stD zs n := by
  unfold stL stN stI; rw [h]; exact ⟨rfl, rfl, rfl⟩
theorem stN_le (zs : List Int) (n : Nat) (x y : Int) : stN zs n x y ≤ n + 1 := by unfold stN; split <;> omega
theorem stN_six (zs : List Int) (n : Nat) (x y : Int) : stN zs n x y ≤ 6 := by
  cases h : stB zs n x y
  · rw [(st_no h).2.1]; omega
  · rw [(st_yes h).2.1]; exact (tvB_yes h).2
theorem stL_length {zs : List Int} {n : Nat} {x y : Int} (hl : zs.length = n * 6) : (stL zs n x y).length = stN zs n x y * 6 := by
  cases h : stB zs n x y
  · rw [(st_no h).1, (st_no h).2.1]; rfl
  · rw [(st_yes h).1, (st_yes h).2.1]
    unfold stR
    rw [List.length_append, hl, six_length]; omega
end Go.Proofs.YtfigjfckelichaaGreatDoor.trkm
