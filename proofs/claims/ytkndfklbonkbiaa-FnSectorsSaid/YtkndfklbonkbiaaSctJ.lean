/- Chapter 17 in plain mathematics: what impl reckons (validity by pairs of sides, the area by sides, in or on the border, the same order) is what spec reckons. -/
import Derived.Test.YtkndfklbonkbiaaSctI
import Derived.Test.YtkndfklbonkbiaaLst
namespace Go.Proofs.Ytkndfklbonkbiaa.sctj
open Go.Proofs.Ytkndfklbonkbiaa.in_ Go.Proofs.Ytkndfklbonkbiaa.pos Go.Proofs.Ytkndfklbonkbiaa.lst Go.Proofs.Ytkndfklbonkbiaa.sct Go.Proofs.Ytkndfklbonkbiaa.sctt Go.Proofs.Ytkndfklbonkbiaa.sctv Go.Proofs.Ytkndfklbonkbiaa.scti

/-- The corners of a flat list. -/
def cX (zs : List Int) (k : Nat) : Int := fld 2 zs k 0
def cY (zs : List Int) (k : Nat) : Int := fld 2 zs k 1

/- Places, all different. -/
def plA (X Y : Nat → Int) : Nat → Bool
  | 0 => true
  | k + 1 => plA X Y k && pB (X k) (Y k)
/-- None of the first k corners is corner i. -/
def nwA (X Y : Nat → Int) (i : Nat) : Nat → Bool
  | 0 => true
  | k + 1 => nwA X Y i k && !decide (X k = X i ∧ Y k = Y i)
def dfA (X Y : Nat → Int) : Nat → Bool
  | 0 => true
  | k + 1 => dfA X Y k && nwA X Y k k
theorem plA_at {X Y : Nat → Int} {n k : Nat} (h : plA X Y n = true) (hk : k < n) : pB (X k) (Y k) = true := by
  induction n with
  | zero => omega
  | succ n ih =>
    rw [plA, Bool.and_eq_true] at h
    by_cases e : k = n
    · subst e; exact h.2
    · exact ih h.1 (by omega)
theorem plA_no {X Y : Nat → Int} {n k : Nat} (hk : k < n) (h : pB (X k) (Y k) = false) : plA X Y n = false := by
  cases e : plA X Y n with
  | false => rfl
  | true => rw [plA_at e hk] at h; cases h
theorem nwA_at {X Y : Nat → Int} {i n k : Nat} (h : nwA X Y i n = true) (hk : k < n) : ¬ (X k = X i ∧ Y k = Y i) := by
  induction n with
  | zero => omega
  | succ n ih =>
    rw [nwA, Bool.and_eq_true] at h
    by_cases e : k = n
    · subst e
      intro hh
      rw [decide_eq_true hh] at h
      exact absurd h.2 (by decide)
    · exact ih h.1 (by omega)
theorem nwA_no {X Y : Nat → Int} {i n k : Nat} (hk : k < n) (h : X k = X i ∧ Y k = Y i) : nwA X Y i n = false := by
  cases e : nwA X Y i n with
  | false => rfl
  | true => exact absurd h (nwA_at e hk)
theorem dfA_at {X Y : Nat → Int} {n k : Nat} (h : dfA X Y n = true) (hk : k < n) : nwA X Y k k = true := by
  induction n with
  | zero => omega
  | succ n ih =>
    rw [dfA, Bool.and_eq_true] at h
    by_cases e : k = n
    · subst e; exact h.2
    · exact ih h.1 (by omega)
theorem dfA_no {X Y : Nat → Int} {n k : Nat} (hk : k < n) (h : nwA X Y k k = false) : dfA X Y n = false := by
  cases e : dfA X Y n with
  | false => rfl
  | true => rw [dfA_at e hk] at h; cases h
theorem nwA_of {X Y : Nat → Int} {i : Nat} : ∀ {n : Nat}, (∀ k, k < n → ¬ (X k = X i ∧ Y k = Y i)) → nwA X Y i n = true
  | 0, _ => rfl
  | n + 1, h => by rw [nwA, nwA_of (fun k hk => h k (by omega)), decide_eq_false (h n (by omega))]; rfl
theorem co_split (X Y : Nat → Int) (n : Nat) : decide (∀ i, i < n → coB X Y i = true) = (plA X Y n && dfA X Y n) := by
  rw [Bool.eq_iff_iff, decide_eq_true_eq, Bool.and_eq_true]
  constructor
  · intro h
    have p1 : ∀ m, m ≤ n → plA X Y m = true := by
      intro m
      induction m with
      | zero => intro _; rfl
      | succ m ih => intro hm; rw [plA, ih (by omega), (co_yes (h m (by omega))).1]; rfl
    have p2 : ∀ m, m ≤ n → dfA X Y m = true := by
      intro m
      induction m with
      | zero => intro _; rfl
      | succ m ih => intro hm; rw [dfA, ih (by omega), nwA_of (co_yes (h m (by omega))).2]; rfl
    exact ⟨p1 n (Nat.le_refl _), p2 n (Nat.le_refl _)⟩
  · intro h i hi
    unfold coB
    rw [plA_at h.1 hi, decide_eq_true (fun k hk => nwA_at (dfA_at h.2 hi) hk)]; rfl

/- A line that has a place. -/
theorem has_is (ax ay bx by_ px py : Int) : mtB ax ay bx by_ px py px py = onB ax ay bx by_ px py := by
  rw [mt_is]
  unfold meB
  cases h : onB ax ay bx by_ px py
  · have n1 : onB px py px py ax ay = false := by
      cases e : onB px py px py ax ay
      · rfl
      · obtain ⟨-, x, y⟩ := on_parts e
        rw [show px = ax by omega, show py = ay by omega, corner_on] at h; cases h
    have n2 : onB px py px py bx by_ = false := by
      cases e : onB px py px py bx by_
      · rfl
      · obtain ⟨-, x, y⟩ := on_parts e
        rw [← on_flip, show px = bx by omega, show py = by_ by omega, corner_on] at h; cases h
    have n3 : opp (cr ax ay bx by_ px py) (cr ax ay bx by_ px py) = false := decide_eq_false (by omega)
    rw [n1, n2, n3]; rfl
  · rfl
/-- Line l runs back along the line b before it. -/
def rbB (lax lay lbx lby bax bay bbx bby : Int) : Bool := onB bax bay bbx bby lbx lby || onB lax lay lbx lby bax bay
/-- Sides i and k, k < i, have too much in common. -/
def tmB (X Y : Nat → Int) (n i k : Nat) : Bool :=
  if i - k = 1 then rbB (X i) (Y i) (X ((i + 1) % n)) (Y ((i + 1) % n)) (X k) (Y k) (X ((k + 1) % n)) (Y ((k + 1) % n))
  else if i - k = n - 1 then rbB (X k) (Y k) (X ((k + 1) % n)) (Y ((k + 1) % n)) (X i) (Y i) (X ((i + 1) % n)) (Y ((i + 1) % n))
  else meB (X i) (Y i) (X ((i + 1) % n)) (Y ((i + 1) % n)) (X k) (Y k) (X ((k + 1) % n)) (Y ((k + 1) % n))
/-- Side i has nothing too much with the first k. -/
def mkS (X Y : Nat → Int) (n i : Nat) : Nat → Bool
  | 0 => true
  | k + 1 => mkS X Y n i k && !tmB X Y n i k
def mkB (X Y : Nat → Int) (n : Nat) : Nat → Bool
  | 0 => true
  | i + 1 => mkB X Y n i && mkS X Y n i i
theorem mkS_at {X Y : Nat → Int} {n i m k : Nat} (h : mkS X Y n i m = true) (hk : k < m) : tmB X Y n i k = false := by
  induction m with
  | zero => omega
  | succ m ih =>
    rw [mkS, Bool.and_eq_true] at h
    by_cases e : k = m
    · subst e; simpa using h.2
    · exact ih h.1 (by omega)
theorem mkS_no {X Y : Nat → Int} {n i m k : Nat} (hk : k < m) (h : tmB X Y n i k = true) : mkS X Y n i m = false := by
  cases e : mkS X Y n i m with
  | false => rfl
  | true => rw [mkS_at e hk] at h; cases h
theorem mkB_at {X Y : Nat → Int} {n m i : Nat} (h : mkB X Y n m = true) (hi : i < m) : mkS X Y n i i = true := by
  induction m with
  | zero => omega
  | succ m ih =>
    rw [mkB, Bool.and_eq_true] at h
    by_cases e : i = m
    · subst e; exact h.2
    · exact ih h.1 (by omega)
theorem mkB_no {X Y : Nat → Int} {n m i : Nat} (hi : i < m) (h : mkS X Y n i i = false) : mkB X Y n m = false := by
  cases e : mkB X Y n m with
  | false => rfl
  | true => rw [mkB_at e hi] at h; cases h
theorem mkS_of {X Y : Nat → Int} {n i : Nat} : ∀ {m : Nat}, (∀ k, k < m → tmB X Y n i k = false) → mkS X Y n i m = true
  | 0, _ => rfl
  | m + 1, h => by rw [mkS, mkS_of (fun k hk => h k (by omega)), h m (by omega)]; rfl
theorem mkB_of {X Y : Nat → Int} {n : Nat} : ∀ {m : Nat}, (∀ i k, k < i → i < m → tmB X Y n i k = false) → mkB X Y n m = true
  | 0, _ => rfl
  | m + 1, h => by rw [mkB, mkB_of (fun i k h1 h2 => h i k h1 (by omega)), mkS_of (fun k hk => h m k hk (by omega))]; rfl
theorem rb_ne {X Y : Nat → Int} {n i j : Nat} (e1 : (i + 1) % n = j) (e2 : (i + 2) % n = (j + 1) % n) : neB X Y n i = !rbB (X j) (Y j) (X ((j + 1) % n)) (Y ((j + 1) % n)) (X i) (Y i) (X ((i + 1) % n)) (Y ((i + 1) % n)) := by
  unfold neB rbB
  rw [e1, e2, Bool.not_or]
theorem mk_is {X Y : Nat → Int} {n : Nat} (h3 : 3 ≤ n) : mkB X Y n n = decide (∀ i, i < n → neB X Y n i = true ∧ ∀ k, k < n → i + 2 ≤ k → apB X Y n i k = true) := by
  have md1 : ∀ k, k + 1 < n → (k + 1) % n = k + 1 := fun k hk => Nat.mod_eq_of_lt hk
  rw [Bool.eq_iff_iff, decide_eq_true_eq]
  constructor
  · intro h
    have hh : ∀ i k, k < i → i < n → tmB X Y n i k = false := fun i k h1 h2 => mkS_at (mkB_at h h2) h1
    intro i hi
    constructor
    · by_cases e : i + 1 = n
      · have g := hh i 0 (by omega) hi
        unfold tmB at g
        rw [if_neg (by omega), if_pos (by omega)] at g
        rw [rb_ne (j := 0) (by rw [e, Nat.mod_self]) (by rw [show i + 2 = 1 + n by omega, Nat.add_mod_right]), g]; rfl
      · have g := hh (i + 1) i (by omega) (by omega)
        unfold tmB at g
        rw [if_pos (by omega)] at g
        rw [rb_ne (j := i + 1) (md1 i (by omega)) rfl, g]; rfl
    · intro k hk hik
      unfold apB
      by_cases e : i = 0 ∧ k + 1 = n
      · rw [decide_eq_true e.1, decide_eq_true e.2]; rfl
      · have g := hh k i (by omega) hk
        unfold tmB at g
        rw [if_neg (by omega), if_neg (by omega), me_comm] at g
        rw [g]
        simp
  · intro h
    refine mkB_of fun i k hki hin => ?_
    unfold tmB
    by_cases e1 : i - k = 1
    · rw [if_pos e1]
      have g := (h k (by omega)).1
      rw [rb_ne (j := i) (by rw [show k + 1 = i by omega]; exact Nat.mod_eq_of_lt hin) (by rw [show k + 2 = i + 1 by omega])] at g
      simpa using g
    · rw [if_neg e1]
      by_cases e2 : i - k = n - 1
      · rw [if_pos e2]
        have g := (h i hin).1
        rw [rb_ne (j := k) (by rw [show i + 1 = n by omega, Nat.mod_self]; omega) (by rw [show i + 2 = 1 + n by omega, Nat.add_mod_right, show k = 0 by omega])] at g
        simpa using g
      · rw [if_neg e2]
        have g := (h k (by omega)).2 i hin (by omega)
        unfold apB at g
        rw [me_comm]
        by_cases e3 : k = 0 ∧ i + 1 = n
        · omega
        · have e4 : (decide (k = 0) && decide (i + 1 = n)) = false := by
            rw [Bool.and_eq_false_iff, decide_eq_false_iff_not, decide_eq_false_iff_not]
            omega
          rw [e4, Bool.false_or] at g
          simpa using g
/-- A valid sector, as impl tests it. -/
theorem se_is (d : Int) (X Y : Nat → Int) (n : Nat) : seB d X Y n = (isIn d 1 99 && (isIn (n : Int) 3 8 && (plA X Y n && (dfA X Y n && mkB X Y n n)))) := by
  unfold seB boB
  rw [co_split]
  by_cases h : 3 ≤ n
  · rw [mk_is h, Bool.and_assoc]
  · have : isIn (n : Int) 3 8 = false := decide_eq_false (by omega)
    rw [this]; simp

/- The area. -/
def shC (X Y : Nat → Int) (n k : Nat) : Int := X k * Y ((k + 1) % n) - X ((k + 1) % n) * Y k
def shV (X Y : Nat → Int) (n : Nat) : Nat → Int := sm (shC X Y n)
theorem dbl_sh (X Y : Nat → Int) : ∀ m, dbl X Y m = sm (fun k => X k * Y (k + 1) - X (k + 1) * Y k) (m + 1) + (X (m + 1) * Y 0 - X 0 * Y (m + 1))
  | 0 => by unfold dbl; simp only [sm]; grind
  | m + 1 => by
    have h := dbl_sh X Y m
    have e : dbl X Y (m + 1) = dbl X Y m + cr (X 0) (Y 0) (X (m + 1)) (Y (m + 1)) (X (m + 2)) (Y (m + 2)) := rfl
    have es : sm (fun k => X k * Y (k + 1) - X (k + 1) * Y k) (m + 1 + 1) = sm (fun k => X k * Y (k + 1) - X (k + 1) * Y k) (m + 1) + (X (m + 1) * Y (m + 1 + 1) - X (m + 1 + 1) * Y (m + 1)) := rfl
    rw [e, h, es]
    generalize sm (fun k => X k * Y (k + 1) - X (k + 1) * Y k) (m + 1) = s
    unfold cr
    grind
theorem sh_is (X Y : Nat → Int) {n : Nat} (h : 3 ≤ n) : shV X Y n n = dbl X Y (n - 2) := by
  obtain ⟨m, rfl⟩ : ∃ m, n = m + 2 := ⟨n - 2, by omega⟩
  rw [show m + 2 - 2 = m by omega, dbl_sh]
  unfold shV
  rw [show sm (shC X Y (m + 2)) (m + 2) = sm (shC X Y (m + 2)) (m + 1) + shC X Y (m + 2) (m + 1) from rfl]
  rw [sm_congr (f := shC X Y (m + 2)) (g := fun k => X k * Y (k + 1) - X (k + 1) * Y k) (m + 1) (fun k hk => by unfold shC; rw [Nat.mod_eq_of_lt (by omega)])]
  unfold shC
  rw [Nat.mod_self]
theorem sm_bd {f : Nat → Int} {B : Int} : ∀ {m : Nat}, (∀ k, k < m → -B ≤ f k ∧ f k ≤ B) → -(m * B) ≤ sm f m ∧ sm f m ≤ m * B
  | 0, _ => by simp [sm]
  | m + 1, h => by
    have h1 := sm_bd (f := f) (B := B) (m := m) (fun k hk => h k (by omega))
    have h2 := h m (by omega)
    rw [sm, show ((m + 1 : Nat) : Int) * B = m * B + B by rw [Int.natCast_succ]; grind]
    omega
theorem shC_bd {X Y : Nat → Int} {n k : Nat} (h : ∀ k, k < n → pB (X k) (Y k) = true) (hk : k < n) : ((0 ≤ X k * Y ((k + 1) % n) ∧ X k * Y ((k + 1) % n) ≤ 97990201) ∧ (0 ≤ X ((k + 1) % n) * Y k ∧ X ((k + 1) % n) * Y k ≤ 97990201)) ∧ -97990201 ≤ shC X Y n k ∧ shC X Y n k ≤ 97990201 := by
  obtain ⟨⟨a1, a2⟩, a3, a4⟩ := pB_yes (h k hk)
  obtain ⟨⟨b1, b2⟩, b3, b4⟩ := pB_yes (h _ (Nat.mod_lt (k + 1) (show 0 < n by omega)))
  have f1 := mul_bd (a := X k) (b := Y ((k + 1) % n)) (by omega) (by omega) (by omega) (by omega)
  have f2 := mul_bd (a := X ((k + 1) % n)) (b := Y k) (by omega) (by omega) (by omega) (by omega)
  have g1 := pp0 a1 b3
  have g2 := pp0 b1 a3
  unfold shC
  exact ⟨⟨⟨g1, f1.2⟩, g2, f2.2⟩, by omega⟩

/- In or on the border. -/
/-- impl's test of a side east of a place. -/
def eaB (ay by_ py c : Int) : Bool := (decide (py < ay) != decide (py < by_)) && (decide (py < by_) == decide (0 < c))
theorem ea_is (ax ay bx by_ px py : Int) : eaB ay by_ py (cr ax ay bx by_ px py) = tog ax ay bx by_ px py := by
  unfold eaB tog
  rcases Int.lt_or_le py ay with h1 | h1 <;> rcases Int.lt_or_le py by_ with h2 | h2
  · rw [decide_eq_true h1, decide_eq_true h2]; rfl
  · rw [decide_eq_true h1, decide_eq_false (show ¬ py < by_ by omega), decide_eq_false (show ¬ ay < by_ by omega)]
  · rw [decide_eq_false (show ¬ py < ay by omega), decide_eq_true h2, decide_eq_true (show ay < by_ by omega)]
  · rw [decide_eq_false (show ¬ py < ay by omega), decide_eq_false (show ¬ py < by_ by omega)]; rfl
/-- Where a place lies: 0 outside, 1 on the border, 2 inside. -/
def whV (X Y : Nat → Int) (n : Nat) (px py : Int) : Int := if brd X Y n px py n then 1 else if par X Y n px py n then 2 else 0
theorem wh_in (X Y : Nat → Int) (n : Nat) (px py : Int) : decide (whV X Y n px py ≠ 0) = inB X Y n px py := by
  unfold whV inB
  cases brd X Y n px py n <;> cases par X Y n px py n <;> rfl
theorem wh_on (X Y : Nat → Int) (n : Nat) (px py : Int) : decide (whV X Y n px py = 1) = brd X Y n px py n := by
  unfold whV
  cases brd X Y n px py n <;> cases par X Y n px py n <;> rfl

/- The same order. -/
theorem back_mod {n a i : Nat} (ha : a < n) (hi : i < n) : (a + i * (n - 1)) % n = if i ≤ a then a - i else a + n - i := by
  have e0 : i * (n - 1) + i = i * n := by
    obtain ⟨m, rfl⟩ : ∃ m, n = m + 1 := ⟨n - 1, by omega⟩
    rw [Nat.add_sub_cancel]; grind
  split
  · have : a + i * (n - 1) = (a - i) + i * n := by omega
    rw [this, Nat.add_mul_mod_self_right, Nat.mod_eq_of_lt (by omega)]
  · obtain ⟨j, rfl⟩ : ∃ j, i = j + 1 := ⟨i - 1, by omega⟩
    have : a + (j + 1) * (n - 1) = (a + n - (j + 1)) + j * n := by
      have : (j + 1) * n = j * n + n := by grind
      omega
    rw [this, Nat.add_mul_mod_self_right, Nat.mod_eq_of_lt (by omega)]
theorem back_rv {n a i : Nat} (ha : a < n) (hi : i < n) : (a + i * (n - 1)) % n = rv n ((i + rv n a) % n) := by
  rw [back_mod ha hi, md hi (rv_lt ha)]
  unfold rv
  split <;> split <;> split <;> split <;> omega
/-- Beginning at a, with steps of s, list b's corners are list a's. -/
def stB (X Y U V : Nat → Int) (n s a : Nat) : Nat → Bool
  | 0 => true
  | i + 1 => stB X Y U V n s a i && decide (U ((a + i * s) % n) = X i ∧ V ((a + i * s) % n) = Y i)
def anB (X Y U V : Nat → Int) (n s : Nat) : Nat → Bool
  | 0 => false
  | a + 1 => anB X Y U V n s a || stB X Y U V n s a n
theorem stB_at {X Y U V : Nat → Int} {n s a m i : Nat} (h : stB X Y U V n s a m = true) (hi : i < m) : U ((a + i * s) % n) = X i ∧ V ((a + i * s) % n) = Y i := by
  induction m with
  | zero => omega
  | succ m ih =>
    rw [stB, Bool.and_eq_true] at h
    by_cases e : i = m
    · subst e; exact of_decide_eq_true h.2
    · exact ih h.1 (by omega)
theorem stB_no {X Y U V : Nat → Int} {n s a m i : Nat} (hi : i < m) (h : ¬ (U ((a + i * s) % n) = X i ∧ V ((a + i * s) % n) = Y i)) : stB X Y U V n s a m = false := by
  cases e : stB X Y U V n s a m with
  | false => rfl
  | true => exact absurd (stB_at e hi) h
theorem stB_of {X Y U V : Nat → Int} {n s a : Nat} : ∀ {m : Nat}, (∀ i, i < m → U ((a + i * s) % n) = X i ∧ V ((a + i * s) % n) = Y i) → stB X Y U V n s a m = true
  | 0, _ => rfl
  | m + 1, h => by rw [stB, stB_of (fun i hi => h i (by omega)), decide_eq_true (h m (by omega))]; rfl
theorem anB_of {X Y U V : Nat → Int} {n s m a : Nat} (ha : a < m) (h : stB X Y U V n s a n = true) : anB X Y U V n s m = true := by
  induction m with
  | zero => omega
  | succ m ih =>
    rw [anB]
    by_cases e : a = m
    · subst e; rw [h, Bool.or_true]
    · rw [ih (by omega)]; rfl
theorem anB_yes {X Y U V : Nat → Int} {n s m : Nat} (h : anB X Y U V n s m = true) : ∃ a, a < m ∧ stB X Y U V n s a n = true := by
  induction m with
  | zero => cases h
  | succ m ih =>
    rw [anB, Bool.or_eq_true] at h
    rcases h with h | h
    · obtain ⟨a, ha, e⟩ := ih h
      exact ⟨a, by omega, e⟩
    · exact ⟨m, by omega, h⟩
theorem an_one (X Y U V : Nat → Int) (n : Nat) : anB X Y U V n 1 n = cyc X Y U V n := by
  rw [Bool.eq_iff_iff]
  constructor
  · intro h
    obtain ⟨a, ha, e⟩ := anB_yes h
    refine cyc_of ha fun i hi => ?_
    have := stB_at e hi
    rw [Nat.mul_one, Nat.add_comm a] at this
    exact ⟨this.1.symm, this.2.symm⟩
  · intro h
    obtain ⟨d, hd, e⟩ := cyc_yes h
    refine anB_of hd (stB_of fun i hi => ?_)
    rw [Nat.mul_one, Nat.add_comm d]
    exact ⟨(e i hi).1.symm, (e i hi).2.symm⟩
theorem an_back (X Y U V : Nat → Int) (n : Nat) : anB X Y U V n (n - 1) n = cyc X Y (fun k => U (rv n k)) (fun k => V (rv n k)) n := by
  rw [Bool.eq_iff_iff]
  constructor
  · intro h
    obtain ⟨a, ha, e⟩ := anB_yes h
    refine cyc_of (rv_lt ha) fun i hi => ?_
    have := stB_at e hi
    rw [back_rv ha hi] at this
    exact ⟨this.1.symm, this.2.symm⟩
  · intro h
    obtain ⟨d, hd, e⟩ := cyc_yes h
    refine anB_of (rv_lt hd) (stB_of fun i hi => ?_)
    rw [back_rv (rv_lt hd) hi, rv_rv hd]
    exact ⟨(e i hi).1.symm, (e i hi).2.symm⟩
/-- The same corners in the same order, in one of both directions, as impl finds it. -/
theorem sa_is (X Y : Nat → Int) (n : Nat) (U V : Nat → Int) (m : Nat) : saB X Y n U V m = (decide (n = m) && (anB X Y U V n 1 n || anB X Y U V n (n - 1) n)) := by
  unfold saB
  rw [an_one]
  by_cases e : n = m
  · subst e; rw [an_back]
  · rw [decide_eq_false e]; rfl
/-- spec's loops: the first i corners from d on are the same. -/
def eqB (X Y U V : Nat → Int) (n d : Nat) : Nat → Bool
  | 0 => true
  | i + 1 => eqB X Y U V n d i && decide (X i = U ((i + d) % n) ∧ Y i = V ((i + d) % n))
theorem eqB_is (X Y U V : Nat → Int) (n d : Nat) : eqB X Y U V n d n = cyB X Y U V n d := by
  have h : ∀ m, eqB X Y U V n d m = decide (∀ i, i < m → X i = U ((i + d) % n) ∧ Y i = V ((i + d) % n)) := by
    intro m
    induction m with
    | zero => rw [eqB, decide_eq_true (fun i hi => absurd hi (Nat.not_lt_zero _))]
    | succ m ih =>
      rw [eqB, ih, Bool.eq_iff_iff, Bool.and_eq_true, decide_eq_true_eq, decide_eq_true_eq, decide_eq_true_eq]
      constructor
      · intro g i hi
        by_cases e : i = m
        · subst e; exact g.2
        · exact g.1 i (by omega)
      · intro g
        exact ⟨fun i hi => g i (by omega), g m (by omega)⟩
  exact h n
def cyT (X Y U V : Nat → Int) (n : Nat) : Nat → Bool
  | 0 => false
  | d + 1 => cyT X Y U V n d || cyB X Y U V n d
theorem cyT_no {X Y U V : Nat → Int} {n d m : Nat} (h : cyT X Y U V n m = false) (hd : d < m) : cyB X Y U V n d = false := by
  induction m with
  | zero => omega
  | succ m ih =>
    rw [cyT, Bool.or_eq_false_iff] at h
    by_cases e : d = m
    · subst e; exact h.2
    · exact ih h.1 (by omega)
theorem cyT_is (X Y U V : Nat → Int) (n : Nat) : cyT X Y U V n n = cyc X Y U V n := by
  unfold cyc
  cases h : cyT X Y U V n n
  · rw [decide_eq_true (fun d hd => cyT_no h hd)]; rfl
  · have hn : ¬ ∀ d, d < n → cyB X Y U V n d = false := fun hh => by
      have : ∀ m, m ≤ n → cyT X Y U V n m = false := by
        intro m
        induction m with
        | zero => intro _; rfl
        | succ m ih => intro hm; rw [cyT, ih (by omega), hh m (by omega)]; rfl
      rw [this n (Nat.le_refl _)] at h; cases h
    rw [decide_eq_false hn]; rfl
theorem cyc_hit {X Y U V : Nat → Int} {n d : Nat} (hd : d < n) (h : cyB X Y U V n d = true) : cyc X Y U V n = true := cyc_of hd (of_decide_eq_true h)

/- The box. -/
def mnF (X : Nat → Int) : Nat → Int
  | 0 => X 0
  | k + 1 => min (mnF X k) (X k)
def mxF (X : Nat → Int) : Nat → Int
  | 0 => X 0
  | k + 1 => max (mxF X k) (X k)
theorem mnF_le {X : Nat → Int} {n k : Nat} (hk : k < n) : mnF X n ≤ X k := by
  induction n with
  | zero => omega
  | succ n ih =>
    rw [mnF]
    by_cases e : k = n
    · subst e; omega
    · have := ih (by omega); omega
theorem le_mxF {X : Nat → Int} {n k : Nat} (hk : k < n) : X k ≤ mxF X n := by
  induction n with
  | zero => omega
  | succ n ih =>
    rw [mxF]
    by_cases e : k = n
    · subst e; omega
    · have := ih (by omega); omega
theorem mnF_one (X : Nat → Int) : mnF X 1 = X 0 := by simp [mnF]
theorem mxF_one (X : Nat → Int) : mxF X 1 = X 0 := by simp [mxF]
end Go.Proofs.Ytkndfklbonkbiaa.sctj
