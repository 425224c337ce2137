/- The mathematics of FnPredictions and FnPaths (no program in it). -/
import Derived.Test.YtinkkdgjpcnklaaMot
namespace Go.Proofs.Ytinkkdgjpcnklaa.motm
open Go.Proofs.Ytinkkdgjpcnklaa.in_ Go.Proofs.Ytinkkdgjpcnklaa.pos Go.Proofs.Ytinkkdgjpcnklaa.vel Go.Proofs.Ytinkkdgjpcnklaa.hgt Go.Proofs.Ytinkkdgjpcnklaa.mot

theorem wh_fact {D r : Int} (h : whB D r = true) : 1 ≤ whD D r ∧ 0 ≤ whN D r ∧ whN D r ≤ 60 * (whD D r : Int) ∧ r * whN D r = D * (whD D r : Int) ∧ (whD D r = 1 ∨ whD D r ≤ r.natAbs) := by
  by_cases h0 : D = 0
  · subst h0
    obtain ⟨-, e1, e2⟩ := wh_zero r
    rw [e1, e2]
    exact ⟨by omega, by omega, by omega, by rw [Int.mul_zero, Int.zero_mul], .inl rfl⟩
  · have hc : 0 < whA D r ∧ whA D r ≤ 60 * (r.natAbs : Int) := by
      unfold whB at h
      rw [decide_eq_false h0, Bool.false_or, Bool.and_eq_true, decide_eq_true_eq, decide_eq_true_eq] at h
      exact h
    obtain ⟨-, e1, e2⟩ := wh_yes h0 hc
    obtain ⟨hA, hB⟩ := hc
    have hr : 0 < r.natAbs := by omega
    obtain ⟨a, b, ea, eb, ta, tb, hg⟩ := tdiv_gcd (whA D r) r.natAbs hr
    have e3 : whN D r = a := by rw [e1]; exact ta
    have e4 : whD D r = b := by rw [e2]; exact tb
    rw [e3, e4]
    generalize Nat.gcd (whA D r).natAbs r.natAbs = g at *
    have hb : 1 ≤ b := by
      rcases Nat.eq_zero_or_pos b with hb | hb
      · rw [hb, Nat.zero_mul] at eb; omega
      · exact hb
    have hgi : (0 : Int) < (g : Int) := by omega
    have ha : 0 < a := by
      rcases Int.lt_or_le 0 a with h | h
      · exact h
      · have := Int.mul_nonpos_of_nonpos_of_nonneg h (Int.le_of_lt hgi)
        omega
    have eb2 : (r.natAbs : Int) = (b : Int) * (g : Int) := by rw [eb]; push_cast; rfl
    have hle : a ≤ 60 * (b : Int) := by
      have h1 : a * (g : Int) ≤ 60 * (b : Int) * (g : Int) := by rw [Int.mul_assoc, ← eb2, ← ea]; exact hB
      exact Int.le_of_mul_le_mul_right h1 hgi
    refine ⟨hb, Int.le_of_lt ha, hle, ?_, .inr ?_⟩
    · by_cases hn : r < 0
      · have eA : whA D r = -D := by unfold whA; rw [if_pos hn]
        have eR : (r.natAbs : Int) = -r := by omega
        have e5 : -D = a * (g : Int) := eA ▸ ea
        have e6 : -r = (b : Int) * (g : Int) := eR ▸ eb2
        have e7 : (-r) * a = (-D) * (b : Int) := by rw [e5, e6]; rw [Int.mul_right_comm (b : Int) (g : Int) a, Int.mul_comm (b : Int) a, Int.mul_right_comm a (g : Int) (b : Int)]
        rw [Int.neg_mul, Int.neg_mul] at e7
        omega
      · have eA : whA D r = D := by unfold whA; rw [if_neg hn]
        have eR : (r.natAbs : Int) = r := by omega
        have e5 : D = a * (g : Int) := eA ▸ ea
        have e6 : r = (b : Int) * (g : Int) := eR ▸ eb2
        rw [e5, e6]
        rw [Int.mul_right_comm (b : Int) (g : Int) a, Int.mul_comm (b : Int) a, Int.mul_right_comm a (g : Int) (b : Int)]
    · rw [eb]
      exact Nat.le_mul_of_pos_right b hg

/-- At the time to an X the place has that X. -/
theorem tx_back {x y u v h c t : Int} (hw : twB (txB x y u v h c t) (t - x) u = true) :
    paB x y u v h c (twN (txB x y u v h c t) (t - x) u) (twD (txB x y u v h c t) (t - x) u : Int) = true ∧
    paV x y u v h c (twN (txB x y u v h c t) (t - x) u) (twD (txB x y u v h c t) (t - x) u : Int) x u = t * (twD (txB x y u v h c t) (t - x) u : Int) ∧
    paD x y u v h c (twN (txB x y u v h c t) (t - x) u) (twD (txB x y u v h c t) (t - x) u : Int) = (twD (txB x y u v h c t) (t - x) u : Int) ∧
    -1000000000 ≤ t * (twD (txB x y u v h c t) (t - x) u : Int) ∧ t * (twD (txB x y u v h c t) (t - x) u : Int) ≤ 1000000000 := by
  unfold twB at hw
  rw [Bool.and_eq_true] at hw
  obtain ⟨h1, h2⟩ := hw
  rw [h1, (tw_yes (t - x) u).2.1, (tw_yes (t - x) u).2.2]
  unfold txB at h1
  rw [Bool.and_eq_true] at h1
  obtain ⟨f1, f2, f3, f4, f5⟩ := wh_fact h2
  obtain ⟨hx, -, hu, -, -, -⟩ := mo_in h1.1
  have ht := isIn_yes h1.2
  have hd : (whD (t - x) u : Int) ≤ 1000 := by omega
  have hp : paB x y u v h c (whN (t - x) u) (whD (t - x) u : Int) = true := by
    unfold paB
    rw [h1.1, tmB_of ⟨by omega, hd⟩ ⟨f2, f3⟩]; rfl
  refine ⟨hp, ?_, (pa_yes hp x u).2, ?_⟩
  · rw [(pa_yes hp x u).1]
    unfold at_
    rw [f4, ← Int.add_mul]
    congr 1
    omega
  · have := mul_le (a := t) (b := (whD (t - x) u : Int)) (M := 9899) (N := 1000) ⟨by omega, by omega⟩ ⟨by omega, hd⟩
    omega
/-- At the time to a height the height is that. -/
theorem th_back {x y u v h c t : Int} (hw : twB (thB x y u v h c t) (t - h) c = true) (hd : (twD (thB x y u v h c t) (t - h) c : Int) ≤ 1000) :
    paB x y u v h c (twN (thB x y u v h c t) (t - h) c) (twD (thB x y u v h c t) (t - h) c : Int) = true ∧
    haN x y u v h c (twN (thB x y u v h c t) (t - h) c) (twD (thB x y u v h c t) (t - h) c : Int) = t ∧
    haD x y u v h c (twN (thB x y u v h c t) (t - h) c) (twD (thB x y u v h c t) (t - h) c : Int) = 1 := by
  unfold twB at hw
  rw [Bool.and_eq_true] at hw
  obtain ⟨h1, h2⟩ := hw
  rw [h1, (tw_yes (t - h) c).2.2] at hd
  rw [h1, (tw_yes (t - h) c).2.1, (tw_yes (t - h) c).2.2]
  unfold thB at h1
  rw [Bool.and_eq_true] at h1
  obtain ⟨f1, f2, f3, f4, f5⟩ := wh_fact h2
  have hp : paB x y u v h c (whN (t - h) c) (whD (t - h) c : Int) = true := by
    unfold paB
    rw [h1.1, tmB_of ⟨by omega, hd⟩ ⟨f2, f3⟩]; rfl
  obtain ⟨e1, e2⟩ := ha_yes hp
  have eX : haX h c (whN (t - h) c) (whD (t - h) c : Int) = t * (whD (t - h) c : Int) := by
    unfold haX
    rw [f4, ← Int.add_mul]
    congr 1
    omega
  have eG : haG h c (whN (t - h) c) (whD (t - h) c : Int) = whD (t - h) c := by
    unfold haG
    rw [eX, Int.natAbs_mul, Int.natAbs_natCast, Int.toNat_natCast, Nat.gcd_comm]
    exact Nat.gcd_mul_left_right _ _ |>.trans rfl
  refine ⟨hp, ?_, ?_⟩
  · rw [e1, eX, eG]
    exact Int.mul_tdiv_cancel t (by omega)
  · rw [e2, eG, Int.toNat_natCast]
    exact Nat.div_self (by omega)
/-- A place at a whole minute. -/
theorem pa_minute {x y u v h c : Int} {k : Nat} (hm : moB x y u v h c = true) (hk : k ≤ 60) :
    paB x y u v h c (k : Int) 1 = true ∧ paV x y u v h c (k : Int) 1 x u = x + u * (k : Int) ∧ paV x y u v h c (k : Int) 1 y v = y + v * (k : Int) ∧ paD x y u v h c (k : Int) 1 = 1 := by
  have hp : paB x y u v h c (k : Int) 1 = true := by
    unfold paB
    rw [hm, tmB_of ⟨by omega, by omega⟩ ⟨by omega, by omega⟩]; rfl
  refine ⟨hp, ?_, ?_, (pa_yes hp x u).2⟩
  · rw [(pa_yes hp x u).1]; unfold at_; rw [Int.mul_one]
  · rw [(pa_yes hp y v).1]; unfold at_; rw [Int.mul_one]
theorem nm_best {x y u v h c p q : Int} (hb : nmB x y u v h c p q = true) : nmV x y u v h c p q ≤ 60 ∧ ∀ i, i ≤ 60 → sqd x y u v p q (nmV x y u v h c p q) ≤ sqd x y u v p q i ∧ (sqd x y u v p q i = sqd x y u v p q (nmV x y u v h c p q) → nmV x y u v h c p q ≤ i) := by
  rw [nm_yes hb]
  exact ⟨nmT_lt _ 60, fun i hi => nmT_min _ 61 i (by omega)⟩
/-- The fraction is the height. -/
theorem ha_back {x y u v h c n d : Int} (hp : paB x y u v h c n d = true) : haN x y u v h c n d * d = (haD x y u v h c n d : Int) * haX h c n d ∧ (-1000000000000 ≤ haN x y u v h c n d * d ∧ haN x y u v h c n d * d ≤ 1000000000000) := by
  obtain ⟨e1, e2⟩ := ha_yes hp
  obtain ⟨h1, h2⟩ := paB_yes hp
  obtain ⟨⟨d1, d2⟩, -⟩ := tmB_yes h2
  have hX := haX_in hp
  obtain ⟨a, b, ea, eb, ta, tb, hg⟩ := tdiv_gcd (haX h c n d) d.toNat (by omega)
  have e3 : haN x y u v h c n d = a := by rw [e1]; exact ta
  have e4 : haD x y u v h c n d = b := by rw [e2]; exact tb
  have hab : (haX h c n d).natAbs = a.natAbs * Nat.gcd (haX h c n d).natAbs d.toNat := by
    have := congrArg Int.natAbs ea
    rwa [Int.natAbs_mul, Int.natAbs_natCast] at this
  rw [e3, e4]
  have hdi : d = (b : Int) * ((Nat.gcd (haX h c n d).natAbs d.toNat : Nat) : Int) := by
    rw [← Int.natCast_mul, ← eb]; omega
  constructor
  · generalize hX' : haX h c n d = X at *
    generalize Nat.gcd X.natAbs d.toNat = g at *
    rw [hdi, ea, ← Int.mul_assoc, Int.mul_comm a (b : Int), Int.mul_assoc]
  · have hle : a.natAbs ≤ (haX h c n d).natAbs := by
      rw [hab]
      exact Nat.le_mul_of_pos_right _ hg
    have := mul_le (a := a) (b := d) (M := 1000000000) (N := 1000) ⟨by omega, by omega⟩ ⟨by omega, d2⟩
    omega
theorem haX_parts {x y u v h c n d : Int} (hp : paB x y u v h c n d = true) : (-1000000000 ≤ h * d ∧ h * d ≤ 1000000000) ∧ -1000000000 ≤ c * n ∧ c * n ≤ 1000000000 := by
  obtain ⟨h1, h2⟩ := paB_yes hp
  obtain ⟨-, -, -, -, k1, k2⟩ := mo_in h1
  have := at_in (M := 130000) (R := 6000) (a := h) (r := c) h2 ⟨by omega, by omega⟩ k2
  omega
/-- A path that is told ends before the minute at which it leaves. -/
theorem path_ends {x y u v h c m s : Int} (hp : pcB x y u v h c m s = true) : 1 ≤ pcN x y u v h c m s ∧ (pcN x y u v h c m s : Int) ≤ m + 1 ∧ (lvB x y u v h c = true → m < (lvV x y u v h c : Int)) := by
  obtain ⟨h1, h2, h3, h4⟩ := pcB_yes hp
  obtain ⟨-, e2⟩ := pc_yes hp
  rw [e2]
  have h5 := cpN_pos (ceX x u s) (ceX y v s) m.toNat
  have h6 := cpN_le (ceX x u s) (ceX y v s) (m.toNat + 1)
  refine ⟨h5, by omega, fun hl => ?_⟩
  have hlv : lvV x y u v h c = led (okT x y u v) 61 := by unfold lvV; rw [hl]; exact if_pos rfl
  have hlt : led (okT x y u v) 61 < 61 := by
    unfold lvB at hl
    rw [Bool.and_eq_true] at hl
    exact of_decide_eq_true hl.2
  rw [hlv]
  rcases Nat.lt_or_ge m.toNat (led (okT x y u v) 61) with hh | hh
  · omega
  · exfalso
    have hall : ∀ i, i < m.toNat + 1 → okT x y u v i = true := fun i hi => led_before (m.toNat + 1) i (by rw [h4]; exact hi)
    have hle : ∀ k, m.toNat + 1 ≤ k → m.toNat + 1 ≤ led (okT x y u v) k := by
      intro k
      induction k with
      | zero => intro h; omega
      | succ k ih =>
        intro hk
        by_cases e : m.toNat + 1 ≤ k
        · have := ih e
          rw [led]; split <;> omega
        · have : k + 1 = m.toNat + 1 := by omega
          rw [this, h4]
          exact Nat.le_refl _
    have := hle 61 (by omega)
    omega
/-- The place of a motion is on its course. -/
theorem own_course {x y u v h c p q : Int} (hb : clB x y u v h c p q = true) : clB x y u v h c x y = true ∧ clV x y u v h c x y = 0 := by
  unfold clB at hb
  rw [Bool.and_eq_true, Bool.and_eq_true] at hb
  have e : clB x y u v h c x y = true := by
    unfold clB
    rw [hb.1, (moB_yes hb.1).1, hb.2.2]; rfl
  refine ⟨e, ?_⟩
  rw [cl_yes e]
  unfold crs
  rw [Int.sub_self, Int.sub_self, Int.mul_zero, Int.mul_zero]
  rfl
end Go.Proofs.Ytinkkdgjpcnklaa.motm
