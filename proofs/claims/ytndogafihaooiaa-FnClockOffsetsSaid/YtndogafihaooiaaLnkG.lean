/- Mathematics of the law FnClockOffsets: how many links are needless where all clocks are connected; offsets agree with links; a link that they tell can be added. -/
import Derived.Test.YtndogafihaooiaaLnkP
namespace Go.Proofs.Ytndogafihaooiaa.lnkg
open Go.Proofs.Ytndogafihaooiaa.in_ Go.Proofs.Ytndogafihaooiaa.lst Go.Proofs.Ytndogafihaooiaa.lnk Go.Proofs.Ytndogafihaooiaa.lnkp

theorem rch_trans {ls : List Int} {m a b c : Nat} (h1 : Rch ls m a b) (h2 : Rch ls m b c) : Rch ls m a c := fun Q x y z => h2 Q (h1 Q x y z) y z
theorem rch_symm {ls : List Int} {m a b : Nat} (h : Rch ls m a b) : Rch ls m b a :=
  h (fun x => Rch ls m x a) .here (fun _ hi ih => rch_trans (Rch.fro .here hi) ih) (fun _ hi ih => rch_trans (Rch.to .here hi) ih)
theorem rch_zero {ls : List Int} {s c : Nat} (h : Rch ls 0 s c) : c = s := h (fun x => x = s) rfl (fun i hi => absurd hi (Nat.not_lt_zero i)) (fun i hi => absurd hi (Nat.not_lt_zero i))
theorem rch_split {ls : List Int} {k s c : Nat} (h : Rch ls (k + 1) s c) : Rch ls k s c ∨ (Rch ls k s (lF ls k) ∧ Rch ls k (lT ls k) c) ∨ (Rch ls k s (lT ls k) ∧ Rch ls k (lF ls k) c) := by
  refine h (fun c => Rch ls k s c ∨ (Rch ls k s (lF ls k) ∧ Rch ls k (lT ls k) c) ∨ (Rch ls k s (lT ls k) ∧ Rch ls k (lF ls k) c)) (.inl .here) (fun i hi ih => ?_) (fun i hi ih => ?_)
  · by_cases e : i = k
    · subst e
      rcases ih with h1 | ⟨h1, h2⟩ | ⟨h1, h2⟩
      · exact .inr (.inl ⟨h1, .here⟩)
      · exact .inr (.inl ⟨h1, .here⟩)
      · exact .inl h1
    · have hi : i < k := by omega
      rcases ih with h1 | ⟨h1, h2⟩ | ⟨h1, h2⟩
      · exact .inl (.to h1 hi)
      · exact .inr (.inl ⟨h1, .to h2 hi⟩)
      · exact .inr (.inr ⟨h1, .to h2 hi⟩)
  · by_cases e : i = k
    · subst e
      rcases ih with h1 | ⟨h1, h2⟩ | ⟨h1, h2⟩
      · exact .inr (.inr ⟨h1, .here⟩)
      · exact .inl h1
      · exact .inr (.inr ⟨h1, .here⟩)
    · have hi : i < k := by omega
      rcases ih with h1 | ⟨h1, h2⟩ | ⟨h1, h2⟩
      · exact .inl (.fro h1 hi)
      · exact .inr (.inl ⟨h1, .fro h2 hi⟩)
      · exact .inr (.inr ⟨h1, .fro h2 hi⟩)
theorem least {P : Nat → Prop} : ∀ x, P x → ∃ y, y ≤ x ∧ P y ∧ ∀ d, d < y → ¬ P d := by
  intro x
  induction x using Nat.strongRecOn with
  | _ x ih =>
    intro h
    by_cases e : ∃ d, d < x ∧ P d
    · obtain ⟨d, hd, hp⟩ := e
      obtain ⟨y, hy, h1, h2⟩ := ih d hd hp
      exact ⟨y, by omega, h1, h2⟩
    · exact ⟨x, Nat.le_refl _, h, fun d hd hp => e ⟨d, hd, hp⟩⟩
/-- The first clock of what is connected with it. -/
def Rep (R : Nat → Nat → Prop) (c : Nat) : Prop := ∀ d, d < c → ¬ R d c
def Join (R : Nat → Nat → Prop) (a b s c : Nat) : Prop := R s c ∨ (R s a ∧ R b c) ∨ (R s b ∧ R a c)
theorem rep_join {R : Nat → Nat → Prop} (hs : ∀ {x y}, R x y → R y x) (ht : ∀ {x y z}, R x y → R y z → R x z) {a b ma mb : Nat} (ha : R a ma) (hb : R b mb) (la : ∀ d, d < ma → ¬ R a d) (lb : ∀ d, d < mb → ¬ R b d) (hlt : ma < mb) :
    Rep R mb ∧ ¬ Rep (Join R a b) mb ∧ ∀ c, c ≠ mb → (Rep (Join R a b) c ↔ Rep R c) := by
  refine ⟨fun d hd h => lb d hd (ht hb (hs h)), fun h => h ma hlt (.inr (.inl ⟨hs ha, hb⟩)), fun c hc => ⟨fun h d hd hR => h d hd (.inl hR), fun h d hd hJ => ?_⟩⟩
  rcases hJ with h1 | ⟨h1, h2⟩ | ⟨h1, h2⟩
  · exact h d hd h1
  · have hle : ¬ c < mb := fun hl => lb c hl h2
    have : mb < c := by omega
    exact h mb this (ht (hs hb) h2)
  · have hle : ¬ c < ma := fun hl => la c hl h2
    by_cases e : ma < c
    · exact h ma e (ht (hs ha) h2)
    · have hcm : c = ma := by omega
      exact lb d (by omega) (hs h1)
open Classical in
noncomputable def rp (ls : List Int) (k c : Nat) : Bool := decide (Rep (Rch ls k) c)
open Classical in
theorem rp_eq {ls : List Int} {k j c : Nat} (h : Rep (Rch ls k) c ↔ Rep (Rch ls j) c) : rp ls k c = rp ls j c := by unfold rp; rw [Bool.eq_iff_iff, decide_eq_true_eq, decide_eq_true_eq]; exact h
open Classical in
theorem rp_true {ls : List Int} {k c : Nat} (h : Rep (Rch ls k) c) : rp ls k c = true := decide_eq_true h
open Classical in
theorem rp_false {ls : List Int} {k c : Nat} (h : ¬ Rep (Rch ls k) c) : rp ls k c = false := decide_eq_false h
theorem join_rch {ls : List Int} {k s c : Nat} : Rch ls (k + 1) s c ↔ Join (Rch ls k) (lF ls k) (lT ls k) s c := by
  refine ⟨rch_split, fun h => ?_⟩
  have hl : Rch ls (k + 1) (lF ls k) (lT ls k) := .to .here (Nat.lt_succ_self k)
  rcases h with h1 | ⟨h1, h2⟩ | ⟨h1, h2⟩
  · exact rch_le h1 (Nat.le_succ k)
  · exact rch_trans (rch_le h1 (Nat.le_succ k)) (rch_trans hl (rch_le h2 (Nat.le_succ k)))
  · exact rch_trans (rch_le h1 (Nat.le_succ k)) (rch_trans (rch_symm hl) (rch_le h2 (Nat.le_succ k)))
theorem cn_ext {f g : Nat → Bool} : ∀ n, (∀ c, c < n → f c = g c) → cnT f n = cnT g n
  | 0, _ => rfl
  | n + 1, h => by rw [cnT, cnT, cn_ext n (fun c hc => h c (by omega)), h n (by omega)]
theorem cn_all {f : Nat → Bool} : ∀ n, (∀ c, c < n → f c = true) → cnT f n = n
  | 0, _ => rfl
  | n + 1, h => by rw [cnT, cn_all n (fun c hc => h c (by omega)), h n (by omega), if_pos rfl]
theorem cn_one {f : Nat → Bool} (h0 : f 0 = true) : ∀ n, (∀ c, 0 < c → c < n + 1 → f c = false) → cnT f (n + 1) = 1
  | 0, _ => by rw [cnT, cnT, h0, if_pos rfl]
  | n + 1, h => by rw [cnT, cn_one h0 n (fun c hc hl => h c hc (by omega)), h (n + 1) (by omega) (by omega)]; rfl
theorem one_less {ls : List Int} {k n c0 : Nat} (hc : c0 < n) (h1 : Rep (Rch ls k) c0) (h2 : ¬ Rep (Rch ls (k + 1)) c0) (h3 : ∀ c, c ≠ c0 → (Rep (Rch ls (k + 1)) c ↔ Rep (Rch ls k) c)) : cnT (rp ls (k + 1)) n + 1 = cnT (rp ls k) n := by
  rw [← cnT_upd (sn := rp ls (k + 1)) hc (rp_false h2)]
  refine cn_ext n fun c _ => ?_
  by_cases e : c = c0
  · rw [e, upd_same, rp_true h1]
  · rw [upd_other _ _ e]; exact rp_eq (h3 c e)
theorem comps {ls : List Int} {n m : Nat} (hv : lkT ls (n : Int) m = true) : ∀ k, k ≤ m → cnT (rp ls k) n + k = n + ndT ls k := by
  intro k
  induction k with
  | zero =>
    intro _
    rw [cn_all n (fun c _ => rp_true (fun d hd h => by have := rch_zero h; omega))]; rfl
  | succ k ih =>
    intro hk
    have ih := ih (by omega)
    obtain ⟨-, -, f1, f2, -⟩ := ln_nat (lkT_at hv (show k < m by omega))
    rw [ndT]
    cases hr : rcB ls k (lF ls k) (lT ls k) with
    | true =>
      have hab := rcB_yes hr
      rw [if_pos rfl]
      have : cnT (rp ls (k + 1)) n = cnT (rp ls k) n := cn_ext n fun c _ => rp_eq (by
        refine ⟨fun h d hd hR => h d hd (rch_le hR (Nat.le_succ k)), fun h d hd hR => h d hd ?_⟩
        rcases rch_split hR with h1 | ⟨h1, h2⟩ | ⟨h1, h2⟩
        · exact h1
        · exact rch_trans h1 (rch_trans hab h2)
        · exact rch_trans h1 (rch_trans (rch_symm hab) h2))
      omega
    | false =>
      rw [if_neg (by simp)]
      obtain ⟨ma, ha1, ha2, ha3⟩ := least (P := fun x => Rch ls k (lF ls k) x) (lF ls k) .here
      obtain ⟨mb, hb1, hb2, hb3⟩ := least (P := fun x => Rch ls k (lT ls k) x) (lT ls k) .here
      have hne : ma ≠ mb := fun e => by
        have := rcB_of (rch_trans ha2 (rch_symm (e ▸ hb2)))
        rw [hr] at this; cases this
      have hJ : ∀ c, (Rep (Rch ls (k + 1)) c ↔ Rep (Join (Rch ls k) (lF ls k) (lT ls k)) c) := fun c => ⟨fun h d hd hh => h d hd (join_rch.2 hh), fun h d hd hh => h d hd (join_rch.1 hh)⟩
      have hJ2 : ∀ c, (Rep (Rch ls (k + 1)) c ↔ Rep (Join (Rch ls k) (lT ls k) (lF ls k)) c) := fun c => (hJ c).trans ⟨fun h d hd hh => h d hd (by rcases hh with h1 | h1 | h1; exact .inl h1; exact .inr (.inr h1); exact .inr (.inl h1)), fun h d hd hh => h d hd (by rcases hh with h1 | h1 | h1; exact .inl h1; exact .inr (.inr h1); exact .inr (.inl h1))⟩
      have hl : cnT (rp ls (k + 1)) n + 1 = cnT (rp ls k) n := by
        rcases Nat.lt_or_ge ma mb with hlt | hge
        · obtain ⟨r1, r2, r3⟩ := rep_join (R := Rch ls k) rch_symm rch_trans ha2 hb2 ha3 hb3 hlt
          exact one_less (show mb < n by omega) r1 (fun h => r2 ((hJ mb).1 h)) (fun c hc => (hJ c).trans (r3 c hc))
        · obtain ⟨r1, r2, r3⟩ := rep_join (R := Rch ls k) rch_symm rch_trans hb2 ha2 hb3 ha3 (show mb < ma by omega)
          exact one_less (show ma < n by omega) r1 (fun h => r2 ((hJ2 ma).1 h)) (fun c hc => (hJ2 c).trans (r3 c hc))
      omega
/-- Where all clocks are connected, as many links are needless as there are more than are needed. -/
theorem nd_all {ls : List Int} {n m : Nat} (hv : lkT ls (n : Int) m = true) (hn : 1 ≤ n) (ha : allT (rcB ls m 0) n = true) : ndT ls m + n = m + 1 := by
  have h := comps hv m (Nat.le_refl m)
  obtain ⟨q, rfl⟩ : ∃ q, n = q + 1 := ⟨n - 1, by omega⟩
  rw [cn_one (rp_true (fun d hd => absurd hd (Nat.not_lt_zero d))) q (fun c hc hl => rp_false (fun h => h 0 hc (rcB_yes (allT_at ha hl))))] at h
  omega

/- Offsets. -/
theorem co_all {ls : List Int} {n m : Nat} (h : coB ls (n : Int) m = true) : lkB ls n m = true ∧ glB ls m = true ∧ allT (rcB ls m 0) n = true := by
  have hk : lkB ls (n : Int) m = true := by unfold coB at h; rw [Bool.and_eq_true] at h; exact h.1
  rw [co_glob hk, Bool.and_eq_true] at h
  exact ⟨hk, h.1, h.2⟩
theorem shw_zero (ls : List Int) (m : Nat) : shw ls m 0 = 0 := by
  unfold shw
  split
  · exact Int.sub_self _
  · rfl
theorem shw_glob {ls : List Int} {n m : Nat} (h : coB ls (n : Int) m = true) : Glob ls m (shw ls m) := by
  obtain ⟨hk, hg, ha⟩ := co_all h
  have hp := agB_yes (gl_ag hg 0)
  unfold shw
  rw [dif_pos hp]
  intro i hi
  obtain ⟨-, -, f1, -⟩ := ln_nat (lkT_at (lkB_yes hk).1 hi)
  have := hp.choose_spec i hi (rcB_yes (allT_at ha f1))
  show hp.choose (lT ls i) - _ = hp.choose (lF ls i) - _ + _
  omega
/-- What agrees with all links shows the same. -/
theorem shw_unique {ls : List Int} {n m c : Nat} {p : Nat → Int} (h : coB ls (n : Int) m = true) (hp : Glob ls m p) (hc : c < n) : p c - p 0 = shw ls m c := by
  obtain ⟨hk, hg, ha⟩ := co_all h
  have := tells_glob (p := shw ls m) (q := p) (fun i hi _ => shw_glob h i hi) hp (Nat.le_refl m) (rcB_yes (allT_at ha hc))
  rw [shw_zero] at this
  omega
theorem srch_end {ls : List Int} {n m s : Nat} (hv : lkT ls (n : Int) m = true) : ∀ (d : Nat) (sn : Nat → Bool) (of : Nat → Int), Srch ls n m s sn of → n - cnT sn n ≤ d → ∃ sn' of', Srch ls n m s sn' of' ∧ Closed ls m sn' := by
  intro d
  induction d with
  | zero =>
    intro sn of h hd
    refine ⟨sn, of, h, fun i hi => ?_⟩
    obtain ⟨-, -, f1, f2, -⟩ := ln_nat (lkT_at hv hi)
    cases e1 : sn (lF ls i) <;> cases e2 : sn (lT ls i)
    · rfl
    · have := cnT_upd (n := n) f1 e1
      have := cnT_le (upd sn (lF ls i) true) n
      omega
    · have := cnT_upd (n := n) f2 e2
      have := cnT_le (upd sn (lT ls i) true) n
      omega
    · rfl
  | succ d ih =>
    intro sn of h hd
    by_cases hc : Closed ls m sn
    · exact ⟨sn, of, h, hc⟩
    · have hex : ∃ i, i < m ∧ sn (lF ls i) ≠ sn (lT ls i) := Classical.byContradiction fun hn => hc fun i hi => Classical.byContradiction fun he => hn ⟨i, hi, he⟩
      obtain ⟨i, hi, he⟩ := hex
      obtain ⟨-, -, f1, f2, -⟩ := ln_nat (lkT_at hv hi)
      cases e1 : sn (lF ls i)
      · have e2 : sn (lT ls i) = true := by
          cases e : sn (lT ls i)
          · rw [e1, e] at he; exact absurd rfl he
          · rfl
        have hu := cnT_upd (n := n) f1 e1
        exact ih _ _ (h.fro hi (lkT_at hv hi) e2 e1) (by omega)
      · have e2 : sn (lT ls i) = false := by
          cases e : sn (lT ls i)
          · rfl
          · rw [e1, e] at he; exact absurd rfl he
        have hu := cnT_upd (n := n) f2 e2
        exact ih _ _ (h.to hi (lkT_at hv hi) e1 e2) (by omega)
theorem shw_small {ls : List Int} {n m c : Nat} (h : coB ls (n : Int) m = true) (hc : c < n) : -6000000 ≤ shw ls m c ∧ shw ls m c ≤ 6000000 := by
  obtain ⟨hk, hg, ha⟩ := co_all h
  obtain ⟨hv, k1, k6, -⟩ := lkB_yes hk
  obtain ⟨sn, of, hs, hcl⟩ := srch_end (s := 0) hv n _ _ (Srch.begin (m := m) (show 0 < n by omega)) (by omega)
  have e := shw_is hs (gl_ag hg 0) (c := c) (by rw [hs.whole hcl]; exact allT_at ha hc)
  have h1 := hs.small c
  have h2 := cnT_le sn n
  omega
theorem fld_app {ls : List Int} {m k j : Nat} {a b z : Int} (hl : ls.length = m * 3) (hk : k < m) (hj : j < 3) : fld 3 (ls ++ [a, b, z]) k j = fld 3 ls k j := by
  unfold fld
  rw [List.getD_eq_getElem?_getD, List.getElem?_append_left (by omega), ← List.getD_eq_getElem?_getD]
theorem l_app {ls : List Int} {m k : Nat} {a b z : Int} (hl : ls.length = m * 3) (hk : k < m) : lF (ls ++ [a, b, z]) k = lF ls k ∧ lT (ls ++ [a, b, z]) k = lT ls k ∧ lO (ls ++ [a, b, z]) k = lO ls k := by
  unfold lF lT lO
  rw [fld_app hl hk (by omega), fld_app hl hk (by omega), fld_app hl hk (by omega)]
  exact ⟨rfl, rfl, rfl⟩
theorem fld_last {ls : List Int} {m : Nat} {a b z : Int} (hl : ls.length = m * 3) (j : Nat) : fld 3 (ls ++ [a, b, z]) m j = [a, b, z].getD j 0 := by
  unfold fld
  rw [List.getD_eq_getElem?_getD, List.getElem?_append_right (by omega), hl, Nat.add_sub_cancel_left, ← List.getD_eq_getElem?_getD]
theorem lkT_app {ls : List Int} {n m : Nat} {a b z : Int} (hl : ls.length = m * 3) (hv : lkT ls (n : Int) m = true) : ∀ k, k ≤ m → lkT (ls ++ [a, b, z]) (n : Int) k = true := by
  intro k
  induction k with
  | zero => intro _; rfl
  | succ k ih =>
    intro hk
    rw [lkT, ih (by omega)]
    have := lkT_at hv (show k < m by omega)
    unfold lnB at this ⊢
    rw [fld_app hl (by omega) (by omega), fld_app hl (by omega) (by omega), fld_app hl (by omega) (by omega), this]; rfl
theorem rch_app {ls : List Int} {m c : Nat} {a b z : Int} (hl : ls.length = m * 3) {s : Nat} (h : Rch ls m s c) : Rch (ls ++ [a, b, z]) (m + 1) s c :=
  fun Q x y w => h Q x (fun i hi hq => by
    have e := l_app (a := a) (b := b) (z := z) hl hi
    have := y i (by omega)
    rw [e.1, e.2.1] at this
    exact this hq) (fun i hi hq => by
    have e := l_app (a := a) (b := b) (z := z) hl hi
    have := w i (by omega)
    rw [e.1, e.2.1] at this
    exact this hq)
/-- The link from the first clock to the last that the offsets tell can be added, and tells nothing new. -/
theorem add_told {ls : List Int} {n m : Nat} (hl : ls.length = m * 3) (h : coB ls (n : Int) m = true) (hn : 1 < n) (hm : m < 12) (hs : -1000000 ≤ shw ls m (n - 1) ∧ shw ls m (n - 1) ≤ 1000000) :
    adB ls n m 0 ((n : Int) - 1) (shw ls m (n - 1)) = true ∧ coB (ls ++ [0, (n : Int) - 1, shw ls m (n - 1)]) n (m + 1) = true ∧ coV (ls ++ [0, (n : Int) - 1, shw ls m (n - 1)]) n (m + 1) = coV ls n m := by
  obtain ⟨hk, hg, ha⟩ := co_all h
  obtain ⟨hv, k1, k6, k12⟩ := lkB_yes hk
  have hv' : lkT (ls ++ [0, (n : Int) - 1, shw ls m (n - 1)]) (n : Int) (m + 1) = true := by
    rw [lkT, lkT_app hl hv m (Nat.le_refl m)]
    unfold lnB
    rw [fld_last hl, fld_last hl, fld_last hl]
    show (true && (isIn 0 0 ((n : Int) - 1) && (isIn ((n : Int) - 1) 0 ((n : Int) - 1) && (decide ((0 : Int) ≠ (n : Int) - 1) && isIn (shw ls m (n - 1)) (-1000000) 1000000)))) = true
    rw [show isIn 0 0 ((n : Int) - 1) = true from decide_eq_true (by omega), show isIn ((n : Int) - 1) 0 ((n : Int) - 1) = true from decide_eq_true (by omega), decide_eq_true (show (0 : Int) ≠ (n : Int) - 1 by omega), show isIn (shw ls m (n - 1)) (-1000000) 1000000 = true from decide_eq_true hs]; rfl
  have hk' : lkB (ls ++ [0, (n : Int) - 1, shw ls m (n - 1)]) (n : Int) (m + 1) = true := by
    unfold lkB
    rw [hv', show isIn (n : Int) 1 6 = true from decide_eq_true ⟨k1, k6⟩, decide_eq_true (show m + 1 ≤ 12 by omega)]; rfl
  have hG : Glob (ls ++ [0, (n : Int) - 1, shw ls m (n - 1)]) (m + 1) (shw ls m) := by
    intro i hi
    by_cases e : i = m
    · subst e
      have e0 : lF (ls ++ [0, (n : Int) - 1, shw ls i (n - 1)]) i = 0 := by unfold lF; rw [fld_last hl]; rfl
      have e1 : lT (ls ++ [0, (n : Int) - 1, shw ls i (n - 1)]) i = n - 1 := by unfold lT; rw [fld_last hl]; show ((n : Int) - 1).toNat = n - 1; omega
      have e2 : lO (ls ++ [0, (n : Int) - 1, shw ls i (n - 1)]) i = shw ls i (n - 1) := by unfold lO; rw [fld_last hl]; rfl
      rw [e0, e1, e2, shw_zero]; omega
    · have e := l_app (a := 0) (b := (n : Int) - 1) (z := shw ls m (n - 1)) hl (show i < m by omega)
      rw [e.1, e.2.1, e.2.2]
      exact shw_glob h i (by omega)
  have hg' := gl_of hG
  have ha' : allT (rcB (ls ++ [0, (n : Int) - 1, shw ls m (n - 1)]) (m + 1) 0) n = true := allT_of fun c hc => rcB_of (rch_app hl (rcB_yes (allT_at ha hc)))
  have hco : coB (ls ++ [0, (n : Int) - 1, shw ls m (n - 1)]) (n : Int) (m + 1) = true := by rw [co_glob hk', hg', ha']; rfl
  refine ⟨?_, hco, ?_⟩
  · unfold adB
    rw [hk', Int.toNat_natCast, ← gl_alT hv', hg']; rfl
  · rw [coV_yes hco, coV_yes h, Int.toNat_natCast]
    refine List.map_congr_left fun c hc => ?_
    have hc := List.mem_range.1 hc
    have := shw_unique hco hG hc
    rw [shw_zero] at this
    omega
end Go.Proofs.Ytndogafihaooiaa.lnkg
