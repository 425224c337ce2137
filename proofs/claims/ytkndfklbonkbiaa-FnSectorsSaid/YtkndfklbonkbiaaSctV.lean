/- Sectors in plain mathematics: validity, the validity of the turned sector, and that two sectors are the same in both directions. -/
import Derived.Test.YtkndfklbonkbiaaSctT
import Derived.Test.YtkndfklbonkbiaaPos
namespace Go.Proofs.Ytkndfklbonkbiaa.sctv
open Go.Proofs.Ytkndfklbonkbiaa.in_ Go.Proofs.Ytkndfklbonkbiaa.pos Go.Proofs.Ytkndfklbonkbiaa.sct Go.Proofs.Ytkndfklbonkbiaa.sctt

/-- Corner i is a place and differs from the ones ahead of it. -/
def coB (X Y : Nat → Int) (i : Nat) : Bool := pB (X i) (Y i) && decide (∀ k, k < i → ¬ (X k = X i ∧ Y k = Y i))
/-- Side i and the next one have no more than the corner between them. -/
def neB (X Y : Nat → Int) (n i : Nat) : Bool :=
  !onB (X i) (Y i) (X ((i + 1) % n)) (Y ((i + 1) % n)) (X ((i + 2) % n)) (Y ((i + 2) % n)) && !onB (X ((i + 1) % n)) (Y ((i + 1) % n)) (X ((i + 2) % n)) (Y ((i + 2) % n)) (X i) (Y i)
/-- Sides i and k, if they are no neighbours, have no point in common. -/
def apB (X Y : Nat → Int) (n i k : Nat) : Bool := (decide (i = 0) && decide (k + 1 = n)) || !meB (X i) (Y i) (X ((i + 1) % n)) (Y ((i + 1) % n)) (X k) (Y k) (X ((k + 1) % n)) (Y ((k + 1) % n))
/-- The border is one of a sector. -/
def boB (X Y : Nat → Int) (n : Nat) : Bool := decide (∀ i, i < n → coB X Y i = true) && decide (∀ i, i < n → neB X Y n i = true ∧ ∀ k, k < n → i + 2 ≤ k → apB X Y n i k = true)
/-- A valid sector. -/
def seB (d : Int) (X Y : Nat → Int) (n : Nat) : Bool := isIn d 1 99 && (isIn (n : Int) 3 8 && boB X Y n)
theorem bo_yes {X Y : Nat → Int} {n : Nat} (h : boB X Y n = true) : (∀ i, i < n → coB X Y i = true) ∧ ∀ i, i < n → neB X Y n i = true ∧ ∀ k, k < n → i + 2 ≤ k → apB X Y n i k = true := by
  unfold boB at h
  rw [Bool.and_eq_true] at h
  exact ⟨of_decide_eq_true h.1, of_decide_eq_true h.2⟩
theorem bo_of {X Y : Nat → Int} {n : Nat} (h1 : ∀ i, i < n → coB X Y i = true) (h2 : ∀ i, i < n → neB X Y n i = true ∧ ∀ k, k < n → i + 2 ≤ k → apB X Y n i k = true) : boB X Y n = true := by
  unfold boB
  rw [decide_eq_true h1, decide_eq_true h2]; rfl
theorem bo_no1 {X Y : Nat → Int} {n i : Nat} (hi : i < n) (h : coB X Y i = false) : boB X Y n = false := by
  unfold boB
  rw [decide_eq_false (fun hh => by rw [hh i hi] at h; cases h)]; rfl
theorem bo_no2 {X Y : Nat → Int} {n i : Nat} (hi : i < n) (h : neB X Y n i = false) : boB X Y n = false := by
  unfold boB
  rw [decide_eq_false (p := ∀ i, i < n → neB X Y n i = true ∧ ∀ k, k < n → i + 2 ≤ k → apB X Y n i k = true) (fun hh => by rw [(hh i hi).1] at h; cases h), Bool.and_false]
theorem bo_no3 {X Y : Nat → Int} {n i k : Nat} (hi : i < n) (hk : k < n) (hik : i + 2 ≤ k) (h : apB X Y n i k = false) : boB X Y n = false := by
  unfold boB
  rw [decide_eq_false (p := ∀ i, i < n → neB X Y n i = true ∧ ∀ k, k < n → i + 2 ≤ k → apB X Y n i k = true) (fun hh => by rw [(hh i hi).2 k hk hik] at h; cases h), Bool.and_false]
theorem se_yes {d : Int} {X Y : Nat → Int} {n : Nat} (h : seB d X Y n = true) : (1 ≤ d ∧ d ≤ 99) ∧ (3 ≤ n ∧ n ≤ 8) ∧ boB X Y n = true := by
  unfold seB at h
  rw [Bool.and_eq_true, Bool.and_eq_true] at h
  have h1 : 1 ≤ d ∧ d ≤ 99 := of_decide_eq_true h.1
  have h2 : 3 ≤ (n : Int) ∧ (n : Int) ≤ 8 := of_decide_eq_true h.2.1
  exact ⟨h1, by omega, h.2.2⟩
theorem se_of {d : Int} {X Y : Nat → Int} {n : Nat} (h1 : 1 ≤ d ∧ d ≤ 99) (h2 : 3 ≤ n ∧ n ≤ 8) (h3 : boB X Y n = true) : seB d X Y n = true := by
  unfold seB isIn
  rw [decide_eq_true h1, decide_eq_true (show 3 ≤ (n : Int) ∧ (n : Int) ≤ 8 by omega), h3]; rfl
theorem co_yes {X Y : Nat → Int} {i : Nat} (h : coB X Y i = true) : pB (X i) (Y i) = true ∧ ∀ k, k < i → ¬ (X k = X i ∧ Y k = Y i) := by
  unfold coB at h
  rw [Bool.and_eq_true] at h
  exact ⟨h.1, of_decide_eq_true h.2⟩
theorem me_comm (ax ay bx by_ px py qx qy : Int) : meB px py qx qy ax ay bx by_ = meB ax ay bx by_ px py qx qy := by
  unfold meB
  rw [Bool.or_comm (onB px py qx qy ax ay || onB px py qx qy bx by_), Bool.and_comm (opp (cr px py qx qy ax ay) (cr px py qx qy bx by_))]
/-- The turned sector's border is one of a sector. -/
theorem bo_turn {X Y : Nat → Int} {n : Nat} (h3 : 3 ≤ n) (h : boB X Y n = true) : boB (fun k => X (rv n k)) (fun k => Y (rv n k)) n = true := by
  obtain ⟨h1, h2⟩ := bo_yes h
  refine bo_of (fun i hi => ?_) (fun i hi => ⟨?_, fun k hk hik => ?_⟩)
  · have e := co_yes (h1 (rv n i) (rv_lt hi))
    unfold coB
    rw [e.1, Bool.true_and]
    refine decide_eq_true fun k hk => ?_
    have e1 := rv_rv (n := n) (k := i) hi
    have e2 := rv_rv (n := n) (k := k) (by omega)
    rcases Nat.lt_trichotomy (rv n k) (rv n i) with g | g | g
    · exact e.2 _ g
    · exfalso; rw [← e1, ← e2, g] at hk; exact absurd hk (Nat.lt_irrefl _)
    · intro hh
      exact (co_yes (h1 (rv n k) (rv_lt (by omega)))).2 _ g ⟨hh.1.symm, hh.2.symm⟩
  · have hj : rv n (nx n (nx n i)) < n := rv_lt (nx_lt (nx_lt hi))
    have e := (h2 _ hj).1
    have f1 : nx n (rv n (nx n (nx n i))) = rv n (nx n i) := by
      have := nx_lt hi
      rw [rv_nx this, rv_is this]
    have f2 : nx n (rv n (nx n i)) = rv n i := by rw [rv_nx hi, rv_is hi]
    unfold neB at e ⊢
    rw [nx_mod hj, nx2_mod hj h3, f1, f2] at e
    rw [nx_mod hi, nx2_mod hi h3]
    show (!onB (X (rv n i)) (Y (rv n i)) (X (rv n (nx n i))) (Y (rv n (nx n i))) (X (rv n (nx n (nx n i)))) (Y (rv n (nx n (nx n i)))) && !onB (X (rv n (nx n i))) (Y (rv n (nx n i))) (X (rv n (nx n (nx n i)))) (Y (rv n (nx n (nx n i)))) (X (rv n i)) (Y (rv n i))) = true
    rw [on_flip, Bool.and_comm, on_flip]
    exact e
  · have hj : n - 1 - k < n := by omega
    have hl : n - 1 - i < n := by omega
    have e := (h2 _ hj).2 (n - 1 - i) hl (by omega)
    unfold apB at e ⊢
    rw [nx_mod hj, nx_mod hl, ← rv_is hk, ← rv_is hi] at e
    rw [nx_mod hi, nx_mod hk]
    show ((decide (i = 0) && decide (k + 1 = n)) || !meB (X (rv n i)) (Y (rv n i)) (X (rv n (nx n i))) (Y (rv n (nx n i))) (X (rv n k)) (Y (rv n k)) (X (rv n (nx n k))) (Y (rv n (nx n k)))) = true
    rw [rv_nx hi, rv_nx hk, me_comm, me_flip, me_swap]
    rw [show decide (n - 1 - k = 0) = decide (k + 1 = n) from decide_eq_decide.2 (by omega), show decide (n - 1 - i + 1 = n) = decide (i = 0) from decide_eq_decide.2 (by omega), Bool.and_comm] at e
    exact e
theorem se_turn {d : Int} {X Y : Nat → Int} {n : Nat} (h : seB d X Y n = true) : seB d (fun k => X (rv n k)) (fun k => Y (rv n k)) n = true := by
  obtain ⟨h1, h2, h3⟩ := se_yes h
  exact se_of h1 h2 (bo_turn h2.1 h3)

/- The same corners in the same cyclic order. -/
def cyB (X Y U V : Nat → Int) (n d : Nat) : Bool := decide (∀ i, i < n → X i = U ((i + d) % n) ∧ Y i = V ((i + d) % n))
def cyc (X Y U V : Nat → Int) (n : Nat) : Bool := !decide (∀ d, d < n → cyB X Y U V n d = false)
def saB (X Y : Nat → Int) (n : Nat) (U V : Nat → Int) (m : Nat) : Bool := decide (n = m) && (cyc X Y U V n || cyc X Y (fun k => U (rv m k)) (fun k => V (rv m k)) n)
theorem cyc_yes {X Y U V : Nat → Int} {n : Nat} (h : cyc X Y U V n = true) : ∃ d, d < n ∧ ∀ i, i < n → X i = U ((i + d) % n) ∧ Y i = V ((i + d) % n) := by
  unfold cyc at h
  rw [Bool.not_eq_true', decide_eq_false_iff_not] at h
  refine Classical.byContradiction fun hh => h fun d hd => ?_
  cases e : cyB X Y U V n d
  · rfl
  · exact absurd ⟨d, hd, of_decide_eq_true e⟩ hh
theorem cyc_of {X Y U V : Nat → Int} {n d : Nat} (hd : d < n) (h : ∀ i, i < n → X i = U ((i + d) % n) ∧ Y i = V ((i + d) % n)) : cyc X Y U V n = true := by
  unfold cyc
  rw [decide_eq_false (fun hh => by have := hh d hd; unfold cyB at this; rw [decide_eq_true h] at this; cases this)]; rfl
theorem cyc_self (X Y : Nat → Int) {n : Nat} (h : 0 < n) : cyc X Y X Y n = true := cyc_of h fun i hi => by rw [Nat.add_zero, Nat.mod_eq_of_lt hi]; exact ⟨rfl, rfl⟩
theorem md {a b n : Nat} (ha : a < n) (hb : b < n) : (a + b) % n = if a + b < n then a + b else a + b - n := by
  split
  · exact Nat.mod_eq_of_lt (by assumption)
  · rw [Nat.mod_eq_sub_mod (by omega), Nat.mod_eq_of_lt (by omega)]
theorem cyc_back {X Y U V : Nat → Int} {n : Nat} (h : cyc X Y U V n = true) : cyc U V X Y n = true := by
  obtain ⟨d, hd, hh⟩ := cyc_yes h
  have he : (if d = 0 then 0 else n - d) < n := by split <;> omega
  refine cyc_of he fun j hj => ?_
  have hi : (j + (if d = 0 then 0 else n - d)) % n < n := Nat.mod_lt _ (by omega)
  have := hh _ hi
  rw [show ((j + (if d = 0 then 0 else n - d)) % n + d) % n = j by rw [md hi hd, md hj he]; split <;> split <;> split <;> omega] at this
  exact ⟨this.1.symm, this.2.symm⟩
theorem cyc_turn {X Y U V : Nat → Int} {n : Nat} (h : cyc X Y (fun k => U (rv n k)) (fun k => V (rv n k)) n = true) : cyc U V (fun k => X (rv n k)) (fun k => Y (rv n k)) n = true := by
  obtain ⟨d, hd, hh⟩ := cyc_yes h
  refine cyc_of hd fun j hj => ?_
  have h1 : (j + d) % n < n := Nat.mod_lt _ (by omega)
  have h2 := rv_lt h1
  have := hh _ h2
  rw [show rv n ((rv n ((j + d) % n) + d) % n) = j by rw [md h2 hd, md hj hd]; unfold rv; split <;> split <;> split <;> split <;> omega] at this
  exact ⟨this.1.symm, this.2.symm⟩
/-- Same in both directions. -/
theorem sa_comm (X Y : Nat → Int) (n : Nat) (U V : Nat → Int) (m : Nat) : saB U V m X Y n = saB X Y n U V m := by
  have one : ∀ {X Y U V : Nat → Int} {n m : Nat}, saB X Y n U V m = true → saB U V m X Y n = true := by
    intro X Y U V n m h
    unfold saB at h
    rw [Bool.and_eq_true, Bool.or_eq_true] at h
    obtain ⟨h1, h2⟩ := h
    have h1 := of_decide_eq_true h1
    subst h1
    unfold saB
    rw [decide_eq_true rfl, Bool.true_and, Bool.or_eq_true]
    rcases h2 with h2 | h2
    · exact Or.inl (cyc_back h2)
    · exact Or.inr (cyc_turn h2)
  rw [Bool.eq_iff_iff]
  exact ⟨one, one⟩
/-- A sector and the turned one are the same. -/
theorem sa_turn (X Y : Nat → Int) {n : Nat} (h : 0 < n) : saB X Y n (fun k => X (rv n k)) (fun k => Y (rv n k)) n = true := by
  unfold saB
  rw [decide_eq_true rfl, Bool.true_and, Bool.or_eq_true]
  refine Or.inr (cyc_of h fun i hi => ?_)
  rw [Nat.add_zero, Nat.mod_eq_of_lt hi]
  show X i = X (rv n (rv n i)) ∧ Y i = Y (rv n (rv n i))
  rw [rv_rv hi]; exact ⟨rfl, rfl⟩

/- Signs, and how great the numbers get. -/
def sgV (x : Int) : Int := if 0 < x then 1 else if x < 0 then -1 else 0
theorem opp_sg (u v : Int) : decide (sgV u * sgV v < 0) = opp u v := by
  unfold opp sgV
  refine decide_eq_decide.2 ?_
  split <;> split <;> (repeat' split) <;> omega
theorem mul_bd {a b : Int} (a0 : -9899 ≤ a) (a1 : a ≤ 9899) (b0 : -9899 ≤ b) (b1 : b ≤ 9899) : -97990201 ≤ a * b ∧ a * b ≤ 97990201 := by
  have f1 := pp0 (show 0 ≤ 9899 - a by omega) (show 0 ≤ 9899 + b by omega)
  have f2 := pp0 (show 0 ≤ 9899 + a by omega) (show 0 ≤ 9899 - b by omega)
  have f3 := pp0 (show 0 ≤ 9899 - a by omega) (show 0 ≤ 9899 - b by omega)
  have f4 := pp0 (show 0 ≤ 9899 + a by omega) (show 0 ≤ 9899 + b by omega)
  have e1 : (9899 - a) * (9899 + b) + (9899 + a) * (9899 - b) = 195980402 - 2 * (a * b) := by grind
  have e2 : (9899 - a) * (9899 - b) + (9899 + a) * (9899 + b) = 195980402 + 2 * (a * b) := by grind
  omega
theorem cr_bd {ox oy ax ay bx by_ : Int} (ho : pB ox oy = true) (ha : pB ax ay = true) (hb : pB bx by_ = true) : ((-97990201 ≤ (ax - ox) * (by_ - oy) ∧ (ax - ox) * (by_ - oy) ≤ 97990201) ∧ (-97990201 ≤ (ay - oy) * (bx - ox) ∧ (ay - oy) * (bx - ox) ≤ 97990201)) ∧ -195980402 ≤ cr ox oy ax ay bx by_ ∧ cr ox oy ax ay bx by_ ≤ 195980402 := by
  obtain ⟨⟨o1, o2⟩, o3, o4⟩ := pB_yes ho
  obtain ⟨⟨a1, a2⟩, a3, a4⟩ := pB_yes ha
  obtain ⟨⟨b1, b2⟩, b3, b4⟩ := pB_yes hb
  have f1 := mul_bd (a := ax - ox) (b := by_ - oy) (by omega) (by omega) (by omega) (by omega)
  have f2 := mul_bd (a := ay - oy) (b := bx - ox) (by omega) (by omega) (by omega) (by omega)
  unfold cr
  exact ⟨⟨f1, f2⟩, by omega, by omega⟩
end Go.Proofs.Ytkndfklbonkbiaa.sctv
