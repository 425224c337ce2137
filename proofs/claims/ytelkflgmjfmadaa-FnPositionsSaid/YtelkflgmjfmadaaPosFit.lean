/- Mathematics of chapter 7's two laws. -/
import Derived.Test.YtelkflgmjfmadaaPos
import Derived.Test.YtelkflgmjfmadaaLst
import Derived.Test.YtelkflgmjfmadaaPosL
import Derived.Test.YtelkflgmjfmadaaPosQ
import Derived.Test.YtelkflgmjfmadaaPosR
namespace Go.Proofs.Ytelkflgmjfmadaa.posfit
open Go.Proofs.Ytelkflgmjfmadaa.pos Go.Proofs.Ytelkflgmjfmadaa.in_ Go.Proofs.Ytelkflgmjfmadaa.lst

set_option linter.unusedVariables false

theorem ld_self {n s : Int} (hs : s = 99 ∨ s = 100) (hn : 0 ≤ n ∧ n ≤ 9899) : ld n (n % s) s = 0 := ld_zero (r := 0) hs ⟨Int.le_refl _, by rcases hs with h | h <;> omega⟩ hn
/- Reports and their data. -/
theorem pk_back {o : Bool} {a b : Int} (h : rB o a b = true) : ukB (pkV o a b) = true ∧ ukO (pkV o a b) = o ∧ ukA (pkV o a b) = a ∧ ukV (pkV o a b) = b := by
  have e : pkV o a b = pk o a b := by unfold pkV; rw [h, if_pos rfl]
  obtain ⟨⟨a0, a1⟩, b0, b1⟩ := rB_yes h
  have hs := sz_pos o
  rw [e]
  have key : (0 ≤ pk o a b ∧ pk o a b ≤ 32767) ∧ decide (16384 ≤ pk o a b) = o ∧ pk o a b % 16384 / 128 = a ∧ pk o a b % 128 = b := by
    unfold pk
    cases o
    · refine ⟨by simp; omega, decide_eq_false (by simp; omega), by simp; omega, by simp; omega⟩
    · refine ⟨by simp; omega, decide_eq_true (by simp; omega), by simp; omega, by simp; omega⟩
  obtain ⟨k1, k2, k3, k4⟩ := key
  have hb : ukB (pk o a b) = true := by unfold ukB isIn; rw [k2, k3, k4, h, decide_eq_true k1]; rfl
  refine ⟨hb, ?_, ?_, ?_⟩
  · unfold ukO; rw [hb, k2]; rfl
  · unfold ukA; rw [hb, if_pos rfl, k3]
  · unfold ukV; rw [hb, if_pos rfl, k4]
theorem uk_back {x : Int} (h : ukB x = true) : rB (ukO x) (ukA x) (ukV x) = true ∧ pkV (ukO x) (ukA x) (ukV x) = x := by
  have h2 := h
  unfold ukB at h2
  rw [Bool.and_eq_true] at h2
  have hx := of_decide_eq_true h2.1
  have eo : ukO x = decide (16384 ≤ x) := by unfold ukO; rw [h]; rfl
  have ea : ukA x = x % 16384 / 128 := by unfold ukA; rw [h, if_pos rfl]
  have ev : ukV x = x % 128 := by unfold ukV; rw [h, if_pos rfl]
  rw [eo, ea, ev]
  refine ⟨h2.2, ?_⟩
  unfold pkV
  rw [h2.2, if_pos rfl]
  unfold pk
  by_cases h3 : 16384 ≤ x
  · rw [decide_eq_true h3, if_pos rfl]; omega
  · rw [decide_eq_false h3, if_neg (by simp)]; omega

/- A place with a report. -/
theorem ro_fit {o : Bool} {a b x y : Int} (hx : 0 ≤ x ∧ x ≤ 9899) (hy : 0 ≤ y ∧ y ≤ 9899) (ha : x % sz o = a) (hb : y % sz o = b) : pB x y = true ∧ roO x y o = o ∧ roV x y x o = a ∧ roV x y y o = b := by
  have h := pB_of hx hy
  refine ⟨h, ?_, ?_, ?_⟩
  · unfold roO; rw [h]; rfl
  · unfold roV; rw [h, if_pos rfl, ha]
  · unfold roV; rw [h, if_pos rfl, hb]
theorem up_nil {r s lo : Int} {k : Nat} (h : ∀ j : Nat, j < k → ¬ lo ≤ r + j * s) : up r s lo k = [] := by
  induction k with
  | zero => rfl
  | succ k ih => rw [up_no (h k (Nat.lt_succ_self k))]; exact ih fun j hj => h j (by omega)
theorem up_one {r s x : Int} (hs : s = 99 ∨ s = 100) (hr : 0 ≤ r ∧ r < s) (hx : 0 ≤ x) (hm : x % s = r) : up r s x (cnt r s x) = [x] := by
  obtain ⟨k, hk⟩ : ∃ k : Nat, x = r + k * s := by
    rcases hs with rfl | rfl
    · exact ⟨((x - r) / 99).toNat, by omega⟩
    · exact ⟨((x - r) / 100).toNat, by omega⟩
  have hc : cnt r s x = k + 1 := by
    have h1 := (cnt_lt (hi := x) (k := k) hs hr).mp (by omega)
    have h2 := fun h => (cnt_lt (hi := x) (k := k + 1) hs hr).mpr h
    rcases Nat.lt_or_ge (k + 1) (cnt r s x) with h | h
    · have := h2 h
      rcases hs with rfl | rfl <;> omega
    · omega
  rw [hc, up_yes (by omega), up_nil (fun j hj => by rcases hs with rfl | rfl <;> omega), ← hk]
  rfl
theorem near_at {o : Bool} {a b x y : Int} (h : dnB o a b x y = true) : (0 ≤ dnX o a b x y ∧ dnX o a b x y ≤ 9899) ∧ (0 ≤ dnY o a b x y ∧ dnY o a b x y ≤ 9899) ∧ dnX o a b x y % sz o = a ∧ dnY o a b x y % sz o = b ∧
    (dnX o a b x y - x ≤ aw o a b x y ∧ x - dnX o a b x y ≤ aw o a b x y) ∧ dnY o a b x y - y ≤ aw o a b x y ∧ y - dnY o a b x y ≤ aw o a b x y := by
  have h2 := h
  unfold dnB at h2
  rw [Bool.and_eq_true] at h2
  obtain ⟨ga, gb⟩ := rB_yes h2.1
  obtain ⟨gx, gy⟩ := pB_yes h2.2
  have ex : dnX o a b x y = first (max (x - aw o a b x y) 0) a (sz o) := by unfold dnX; rw [h, if_pos rfl]
  have ey : dnY o a b x y = first (max (y - aw o a b x y) 0) b (sz o) := by unfold dnY; rw [h, if_pos rfl]
  have w1 := within_in (d := aw o a b x y) (sz_or o) ga gx (by unfold aw; omega)
  have w2 := within_in (d := aw o a b x y) (sz_or o) gb gy (by unfold aw; omega)
  rw [ex, ey]
  exact ⟨⟨w1.1, w1.2.1⟩, ⟨w2.1, w2.2.1⟩, w1.2.2.2.2, w2.2.2.2.2, ⟨w1.2.2.1, w1.2.2.2.1⟩, w2.2.2.1, w2.2.2.2.1⟩
/-- The nearest place with a report, as the law asks. -/
structure Fit (o : Bool) (a b X Y : Int) : Prop where
  p : pB X Y = true
  o' : roO X Y o = o
  a' : roV X Y X o = a
  b' : roV X Y Y o = b
  w : pwB o a b X Y X Y = true
  n : pwN o a b X Y X Y = 1
  v : pwV o a b X Y X Y = [X, Y]
theorem near_fit {o : Bool} {a b x y : Int} (h : dnB o a b x y = true) : Fit o a b (dnX o a b x y) (dnY o a b x y) := by
  obtain ⟨hx, hy, ea, eb, -, -⟩ := near_at h
  have h2 := h
  unfold dnB at h2
  rw [Bool.and_eq_true] at h2
  obtain ⟨ga, gb⟩ := rB_yes h2.1
  obtain ⟨f1, f2, f3, f4⟩ := ro_fit hx hy ea eb
  generalize dnX o a b x y = X at *
  generalize dnY o a b x y = Y at *
  have u1 : pwX o a X X = [X] := up_one (sz_or o) ga hx.1 ea
  have u2 : pwX o b Y Y = [Y] := up_one (sz_or o) gb hy.1 eb
  have hw : pwB o a b X Y X Y = true := by unfold pwB pw0; rw [h2.1, f1, u1, u2, decide_eq_true (Int.le_refl X), decide_eq_true (Int.le_refl Y)]; rfl
  obtain ⟨n1, v1⟩ := posr.pw_yes hw
  rw [u1, u2] at n1 v1
  exact ⟨f1, f2, f3, f4, hw, n1, v1⟩

/- Pairs of numbers in a flat list. -/
def Pairs (p : Int → Int → Prop) : List Int → Prop
  | [] => True
  | [_] => False
  | x :: y :: r => p x y ∧ Pairs p r
theorem pairs_add {p : Int → Int → Prop} : ∀ {xs ys : List Int}, Pairs p xs → Pairs p ys → Pairs p (xs ++ ys)
  | [], _, _, h => h
  | [_], _, h, _ => h.elim
  | _ :: _ :: _, _, h, k => ⟨h.1, pairs_add h.2 k⟩
theorem pairs_row {p : Int → Int → Prop} {y : Int} : ∀ {xs : List Int}, (∀ x ∈ xs, p x y) → Pairs p (row y xs)
  | [], _ => trivial
  | x :: xs, h => ⟨h x (List.mem_cons_self ..), pairs_row fun z hz => h z (List.mem_cons_of_mem _ hz)⟩
theorem pairs_places {p : Int → Int → Prop} {xs : List Int} : ∀ {ys : List Int}, (∀ x ∈ xs, ∀ y ∈ ys, p x y) → Pairs p (places xs ys)
  | [], _ => trivial
  | y :: ys, h => by
    have e : places xs (y :: ys) = row y xs ++ places xs ys := rfl
    rw [e]
    exact pairs_add (pairs_row fun x hx => h x hx y (List.mem_cons_self ..)) (pairs_places fun x hx z hz => h x hx z (List.mem_cons_of_mem _ hz))
theorem pairs_fld {p : Int → Int → Prop} : ∀ {zs : List Int} {k : Nat}, Pairs p zs → k * 2 < zs.length → p (fld 2 zs k 0) (fld 2 zs k 1)
  | [], k, _, h => absurd h (Nat.not_lt_zero _)
  | [_], _, h, _ => h.elim
  | x :: y :: r, 0, h, _ => h.1
  | x :: y :: r, k + 1, h, hk => by
    have := pairs_fld (k := k) h.2 (by simp at hk ⊢; omega)
    unfold fld at this ⊢
    rw [show (k + 1) * 2 + 0 = (k * 2 + 0) + 1 + 1 by omega, show (k + 1) * 2 + 1 = (k * 2 + 1) + 1 + 1 by omega]
    simpa using this

/-- A place of a list has the report. -/
def Has (o : Bool) (a b x y : Int) : Prop := pB x y = true ∧ roO x y o = o ∧ roV x y x o = a ∧ roV x y y o = b
theorem pw_fit {o : Bool} {a b lx ly hx hy : Int} {k : Nat} (hk : k < pwN o a b lx ly hx hy) : Has o a b (fld 2 (pwV o a b lx ly hx hy) k 0) (fld 2 (pwV o a b lx ly hx hy) k 1) := by
  refine pairs_fld (p := Has o a b) ?_ (by rw [pw_length]; omega)
  cases hw : pwB o a b lx ly hx hy
  · rw [(posr.pw_no hw).2]; trivial
  · rw [(posr.pw_yes hw).2]
    unfold pwB pw0 at hw
    simp only [Bool.and_eq_true] at hw
    obtain ⟨ga, gb⟩ := rB_yes hw.1.1.1.1.1
    obtain ⟨gh, gk⟩ := pB_yes hw.1.1.1.2
    refine pairs_places fun x hx' y hy' => ?_
    have h1 := up_range (sz_or o) ga hx'
    have h2 := up_range (sz_or o) gb hy'
    exact ro_fit ⟨h1.1.1, by omega⟩ ⟨h2.1.1, by omega⟩ h1.2.1 h2.2.1
/-- A place that a moved pair allows: it has the newer report and is near by d to one with the older. -/
def Moved (o1 : Bool) (a1 b1 : Int) (o2 : Bool) (a2 b2 d x y : Int) : Prop := Has o2 a2 b2 x y ∧ dnB o1 a1 b1 x y = true ∧ (dnX o1 a1 b1 x y - x ≤ d ∧ x - dnX o1 a1 b1 x y ≤ d) ∧ dnY o1 a1 b1 x y - y ≤ d ∧ y - dnY o1 a1 b1 x y ≤ d
theorem dm_fit {o1 : Bool} {a1 b1 : Int} {o2 : Bool} {a2 b2 d : Int} {k : Nat} (hk : k < dmN o1 a1 b1 o2 a2 b2 d) : Moved o1 a1 b1 o2 a2 b2 d (fld 2 (dmV o1 a1 b1 o2 a2 b2 d) k 0) (fld 2 (dmV o1 a1 b1 o2 a2 b2 d) k 1) := by
  refine pairs_fld (p := Moved o1 a1 b1 o2 a2 b2 d) ?_ (by rw [dm_length]; omega)
  cases hw : dmB o1 a1 b1 o2 a2 b2 d
  · rw [(posq.dm_no hw).2]; trivial
  · rw [(posq.dm_yes hw).2]
    unfold dmB at hw
    simp only [Bool.and_eq_true] at hw
    obtain ⟨ga2, gb2⟩ := rB_yes hw.1.1.2
    refine pairs_places fun x hx' y hy' => ?_
    obtain ⟨rx, mx, lx⟩ := mv_range (sz_or o2) ga2 hx'
    obtain ⟨ry, my, ly⟩ := mv_range (sz_or o2) gb2 hy'
    have hf := ro_fit rx ry mx my
    have hdn : dnB o1 a1 b1 x y = true := by unfold dnB; rw [hw.1.1.1, hf.1]; rfl
    obtain ⟨-, -, -, -, c1, c2⟩ := near_at hdn
    have haw : aw o1 a1 b1 x y ≤ d := by unfold aw; omega
    exact ⟨hf, hdn, ⟨by omega, by omega⟩, by omega, by omega⟩

/- A place and its own reports. -/
theorem first_self {x s : Int} (hs : s = 99 ∨ s = 100) (hx : 0 ≤ x) : first (max (x - 0) 0) (x % s) s = x := by
  rw [show max (x - 0) 0 = x by omega]
  rcases hs with rfl | rfl <;> unfold first <;> omega
theorem mv_self {x : Int} {o : Bool} (hx : 0 ≤ x ∧ x ≤ 9899) : mv (x % sz o) (sz o) (x % sz (!o)) (sz (!o)) 0 = [x] := by
  have hs := sz_or o
  have hs' := sz_or (!o)
  have hr : 0 ≤ x % sz (!o) ∧ x % sz (!o) < sz (!o) := ⟨Int.emod_nonneg _ (by rcases hs' with h | h <;> omega), Int.emod_lt_of_pos _ (by rcases hs' with h | h <;> omega)⟩
  have hr0 : 0 ≤ x % sz o ∧ x % sz o < sz o := ⟨Int.emod_nonneg _ (by rcases hs with h | h <;> omega), Int.emod_lt_of_pos _ (by rcases hs with h | h <;> omega)⟩
  -- near by 0 to a number with the remainder: it has the remainder itself
  have hz : ∀ n : Int, (0 ≤ n ∧ n ≤ 9899) → (ld n (x % sz o) (sz o) ≤ 0 ↔ n % sz o = x % sz o) := fun n hn => by
    constructor
    · intro h
      obtain ⟨m, hm, he, hx'⟩ := ld_at hs hr0 hn
      have h0 := ld_in hs hr0 hn
      obtain rfl : m = n := by omega
      exact he
    · intro h
      have := ld_self hs hn
      rw [h] at this
      omega
  have huniq : ∀ n : Int, (0 ≤ n ∧ n ≤ 9899) → n % sz o = x % sz o → n % sz (!o) = x % sz (!o) → n = x := fun n hn h1 h2 => by
    cases o
    · have h3 := both_of hn
      have h4 := both_of hx
      simp [sz] at h1 h2
      rw [h1, h2] at h3
      exact h3.symm.trans h4
    · have h3 := both_of hn
      have h4 := both_of hx
      simp [sz] at h1 h2
      rw [h1, h2] at h3
      exact h3.symm.trans h4
  unfold mv
  -- the number itself is one of the list's candidates
  obtain ⟨k0, hk0⟩ : ∃ k : Nat, x = x % sz (!o) + k * sz (!o) := by
    rcases hs' with h | h
    · rw [h]; exact ⟨(x / 99).toNat, by omega⟩
    · rw [h]; exact ⟨(x / 100).toNat, by omega⟩
  have hkc := (cnt_lt (hi := 9899) (k := k0) hs' hr).mp (by omega)
  generalize hr1 : x % sz (!o) = r at *
  have hcand : ∀ j : Nat, j < cnt r (sz (!o)) 9899 → (ld (r + j * sz (!o)) (x % sz o) (sz o) ≤ 0 ↔ j = k0) := fun j hj => by
    have hj2 := (cnt_lt (hi := 9899) (k := j) hs' hr).mpr hj
    have hj0 : 0 ≤ r + j * sz (!o) := by rcases hs' with h | h <;> rw [h] <;> omega
    rw [hz _ ⟨hj0, hj2⟩]
    constructor
    · intro h
      have := huniq _ ⟨hj0, hj2⟩ h (by rcases hs' with h | h <;> rw [h] at hr ⊢ <;> omega)
      rcases hs' with h | h <;> rw [h] at this hk0 <;> omega
    · rintro rfl
      rw [← hk0]
  -- the list holds exactly this one
  have : ∀ k : Nat, k ≤ cnt r (sz (!o)) 9899 → mvT (x % sz o) (sz o) r (sz (!o)) 0 k = if k0 < k then [x] else [] := by
    intro k
    induction k with
    | zero => intro _; rfl
    | succ k ih =>
      intro hk
      have hi := ih (by omega)
      have hc := hcand k (by omega)
      by_cases h : k = k0
      · subst h
        rw [mvT_yes (hc.mpr rfl), hi, if_neg (by omega), if_pos (by omega), ← hk0]; rfl
      · rw [mvT_no (fun h' => h (hc.mp h')), hi]
        by_cases h2 : k0 < k
        · rw [if_pos h2, if_pos (by omega)]
        · rw [if_neg h2, if_neg (by omega)]
  rw [this _ (Nat.le_refl _), if_pos hkc]

/-- What the law asks of a valid place and the kind of its first report. -/
structure Own (x y : Int) (o : Bool) : Prop where
  pe : dpB false (x % 100) (y % 100) true (x % 99) (y % 99) = true
  px : dpV false (x % 100) (y % 100) true (x % 99) (y % 99) (x % 100) (x % 99) = x
  py : dpV false (x % 100) (y % 100) true (x % 99) (y % 99) (y % 100) (y % 99) = y
  nb : dnB o (x % sz o) (y % sz o) x y = true
  nx : dnX o (x % sz o) (y % sz o) x y = x
  ny : dnY o (x % sz o) (y % sz o) x y = y
  mb : dmB o (x % sz o) (y % sz o) (!o) (x % sz (!o)) (y % sz (!o)) 0 = true
  mn : dmN o (x % sz o) (y % sz o) (!o) (x % sz (!o)) (y % sz (!o)) 0 = 1
  mv : dmV o (x % sz o) (y % sz o) (!o) (x % sz (!o)) (y % sz (!o)) 0 = [x, y]
theorem own {x y : Int} (o : Bool) (h : pB x y = true) : Own x y o := by
  obtain ⟨hx, hy⟩ := pB_yes h
  have g1 := ro_good o h
  have g2 := ro_good (!o) h
  have ge : rB false (x % 100) (y % 100) = true := ro_good false h
  have go : rB true (x % 99) (y % 99) = true := ro_good true h
  have pe : dpB false (x % 100) (y % 100) true (x % 99) (y % 99) = true := by unfold dpB; rw [ge, go]; rfl
  have nb : dnB o (x % sz o) (y % sz o) x y = true := by unfold dnB; rw [g1, h]; rfl
  have mb : dmB o (x % sz o) (y % sz o) (!o) (x % sz (!o)) (y % sz (!o)) 0 = true := by unfold dmB; rw [g1, g2]; cases o <;> rfl
  have haw : aw o (x % sz o) (y % sz o) x y = 0 := by unfold aw; rw [ld_self (sz_or o) hx, ld_self (sz_or o) hy]; rfl
  have m1 : dmX o (x % sz o) (!o) (x % sz (!o)) 0 = [x] := mv_self hx
  have m2 : dmX o (y % sz o) (!o) (y % sz (!o)) 0 = [y] := mv_self hy
  obtain ⟨n1, v1⟩ := posq.dm_yes mb
  rw [m1, m2] at n1 v1
  refine ⟨pe, ?_, ?_, nb, ?_, ?_, mb, n1, v1⟩
  · unfold dpV; rw [pe, if_pos rfl]; exact both_of hx
  · unfold dpV; rw [pe, if_pos rfl]; exact both_of hy
  · unfold dnX; rw [nb, if_pos rfl, haw]; exact first_self (sz_or o) hx.1
  · unfold dnY; rw [nb, if_pos rfl, haw]; exact first_self (sz_or o) hy.1
end Go.Proofs.Ytelkflgmjfmadaa.posfit
