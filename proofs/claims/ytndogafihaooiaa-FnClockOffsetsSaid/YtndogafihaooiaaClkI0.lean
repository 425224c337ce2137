/- impl's functions of pairs: isTicks, isOffset, isTicksOrNone, areAll at numbers and at pairs, isPair, IsValidPairs. -/
import Derived.Test.YtndogafihaooiaaClkS
import Derived.Test.YtndogafihaooiaaIntC
import Derived.Deep.RegionHeld3
import Derived.Deep.CutRange
namespace Go.Proofs.Ytndogafihaooiaa.clki
open Go.RowKit Go.Proofs.Ytndogafihaooiaa.ints Go.Proofs.Ytndogafihaooiaa.lst Go.Proofs.Ytndogafihaooiaa.in_ Go.Proofs.Ytndogafihaooiaa.ats Go.Proofs.Ytndogafihaooiaa.clk Go.Proofs.Ytndogafihaooiaa.clks Go.Proofs.Ytndogafihaooiaa.intc

theorem isTicks (x : Int) (w : World) : Calls Try.prog 57 #[.int .i64 x] w fun e w' => e = .returned (.bool (isIn x 0 1000000)) ∧ w = w' := by
  by_cases h1 : 0 ≤ x
  · have g1 : decide (0 ≤ x) = true := decide_eq_true h1
    by_cases h2 : x ≤ 1000000
    · have g2 : isIn x 0 1000000 = true := decide_eq_true ⟨h1, h2⟩
      rw [g2]
      go_enter Try.func57, Try.ntmps57
      go_wp2_with fail
      go_ret
      exact ⟨rfl, rfl⟩
    · have g2 : isIn x 0 1000000 = false := decide_eq_false (fun h => h2 h.2)
      have g3 : 1000000 < x := by omega
      rw [g2]
      go_enter Try.func57, Try.ntmps57
      go_wp2_with fail
      go_ret
      exact ⟨rfl, rfl⟩
  · have g2 : isIn x 0 1000000 = false := decide_eq_false (fun h => h1 h.1)
    have g3 : x < 0 := by omega
    rw [g2]
    go_enter Try.func57, Try.ntmps57
    go_wp2_with fail
    go_ret
    exact ⟨rfl, rfl⟩

theorem isOffset (x : Int) (w : World) : Calls Try.prog 71 #[.int .i64 x] w fun e w' => e = .returned (.bool (isIn x (-1000000) 1000000)) ∧ w = w' := by
  by_cases h1 : (-1000000) ≤ x
  · have g1 : decide ((-1000000) ≤ x) = true := decide_eq_true h1
    by_cases h2 : x ≤ 1000000
    · have g2 : isIn x (-1000000) 1000000 = true := decide_eq_true ⟨h1, h2⟩
      rw [g2]
      go_enter Try.func71, Try.ntmps71
      go_wp2_with fail
      go_ret
      exact ⟨rfl, rfl⟩
    · have g2 : isIn x (-1000000) 1000000 = false := decide_eq_false (fun h => h2 h.2)
      have g3 : 1000000 < x := by omega
      rw [g2]
      go_enter Try.func71, Try.ntmps71
      go_wp2_with fail
      go_ret
      exact ⟨rfl, rfl⟩
  · have g2 : isIn x (-1000000) 1000000 = false := decide_eq_false (fun h => h1 h.1)
    have g3 : x < (-1000000) := by omega
    rw [g2]
    go_enter Try.func71, Try.ntmps71
    go_wp2_with fail
    go_ret
    exact ⟨rfl, rfl⟩

theorem isTicksOrNone (x : Int) (w : World) : Calls Try.prog 72 #[.int .i64 x] w fun e w' => e = .returned (.bool (isIn x (-1) 1000000)) ∧ w = w' := by
  have T := Lib.hid (fun w => isTicks x w)
  by_cases h : x = -1
  · subst h
    rw [show isIn (-1) (-1) 1000000 = true from rfl]
    clear T
    go_enter Try.func72, Try.ntmps72
    go_wp2_with fail
    go_ret
    exact ⟨rfl, rfl⟩
  · have e : isIn x (-1) 1000000 = isIn x 0 1000000 := by
      unfold isIn
      rw [Bool.eq_iff_iff]
      simp only [decide_eq_true_eq]
      omega
    rw [e]
    clear e
    have g : (x == -1) = false := beq_eq_false_iff_ne.mpr h
    clear h
    generalize isIn x 0 1000000 = b at *
    go_enter Try.func72, Try.ntmps72
    go_wp2_with fail
    refine (T.out _).mono ?_
    rintro e w' ⟨rfl, rfl⟩
    go_wp2_with fail
    go_ret
    exact ⟨rfl, rfl⟩

/-- All of the first k numbers lie between a and b. -/
def alI (a b : Int) (xs : List Int) : Nat → Bool
  | 0 => true
  | k + 1 => alI a b xs k && isIn (xs.getD k 0) a b
theorem alI_at {a b : Int} {xs : List Int} {n k : Nat} (h : alI a b xs n = true) (hk : k < n) : isIn (xs.getD k 0) a b = true := by
  induction n with
  | zero => omega
  | succ n ih =>
    rw [alI, Bool.and_eq_true] at h
    by_cases e : k = n
    · subst e; exact h.2
    · exact ih h.1 (by omega)
theorem alI_no {a b : Int} {xs : List Int} {n k : Nat} (hk : k < n) (h : isIn (xs.getD k 0) a b = false) : alI a b xs n = false := by
  cases e : alI a b xs n with
  | false => rfl
  | true => rw [alI_at e hk] at h; cases h
theorem allTicks (xs : List Int) (A : Option Addr) (n c : Nat) (w : World) (hn : n ≤ 1048577) (h1 : RdI w w.heap.size A n xs) :
    Calls Try.prog 70 #[.func (.func 57) #[] #[], .slice A n c] w fun e w' => e = .returned (.bool (alI 0 1000000 xs n)) ∧ w = w' := by
  go_enter Try.func70, Try.ntmps70
  go_wp2
  go_loop [9] (fun i => ∃ k : Nat, k ≤ n ∧ i = .int .i64 k ∧ alI 0 1000000 xs k = true) (fun i => n - (intOf i).toNat)
  case atStart => exact ⟨0, Nat.zero_le _, rfl, rfl⟩
  case round =>
    obtain ⟨k, hk, rfl, hai⟩ := hrel
    by_cases hlt : k < n
    · obtain ⟨b, o, x, rfl, hbl, hx, hc⟩ := h1.at_ hlt
      have hlt2 : (k : Int) < (n : Int) := by omega
      have X := Lib.hid (fun w => isTicks x w)
      have hxd : xs.getD k 0 = x := by rw [List.getD_eq_getElem?_getD, hx]; rfl
      have HN := Lib.hid (fun (h : isIn (xs.getD k 0) 0 1000000 = false) => alI_no (xs := xs) (n := n) hlt h)
      have HS := Lib.hid (show alI 0 1000000 xs (k + 1) = (alI 0 1000000 xs k && isIn (xs.getD k 0) 0 1000000) from rfl)
      rw [hai] at HS
      rw [hxd] at HS HN
      clear hxd hx hai h1
      generalize isIn x 0 1000000 = p at *
      cases p
      · have HE := Lib.hid (HN.out rfl)
        clear HN HS
        go_wp2_with fail
        refine (X.out _).mono ?_
        rintro e w' ⟨rfl, rfl⟩
        go_wp2_with fail
        go_ret
        exact ⟨by rw [HE.out]; rfl, rfl⟩
      · have HE := Lib.hid (show alI 0 1000000 xs (k + 1) = true from HS.out)
        clear HN HS
        go_wp2_with fail
        refine (X.out _).mono ?_
        rintro e w' ⟨rfl, rfl⟩
        go_wp2_with fail
        go_round
        case rel => exact ⟨k + 1, by omega, by go_num, HE.out⟩
        case measure => simp [intOf]; omega
    · obtain rfl : k = n := by omega
      have HO := Lib.hid hai
      clear h1 hai
      go_wp2
      go_ret
      exact ⟨by rw [HO.out]; rfl, rfl⟩

theorem allOffset (xs : List Int) (A : Option Addr) (n c : Nat) (w : World) (hn : n ≤ 1048577) (h1 : RdI w w.heap.size A n xs) :
    Calls Try.prog 70 #[.func (.func 71) #[] #[], .slice A n c] w fun e w' => e = .returned (.bool (alI (-1000000) 1000000 xs n)) ∧ w = w' := by
  go_enter Try.func70, Try.ntmps70
  go_wp2
  go_loop [9] (fun i => ∃ k : Nat, k ≤ n ∧ i = .int .i64 k ∧ alI (-1000000) 1000000 xs k = true) (fun i => n - (intOf i).toNat)
  case atStart => exact ⟨0, Nat.zero_le _, rfl, rfl⟩
  case round =>
    obtain ⟨k, hk, rfl, hai⟩ := hrel
    by_cases hlt : k < n
    · obtain ⟨b, o, x, rfl, hbl, hx, hc⟩ := h1.at_ hlt
      have hlt2 : (k : Int) < (n : Int) := by omega
      have X := Lib.hid (fun w => isOffset x w)
      have hxd : xs.getD k 0 = x := by rw [List.getD_eq_getElem?_getD, hx]; rfl
      have HN := Lib.hid (fun (h : isIn (xs.getD k 0) (-1000000) 1000000 = false) => alI_no (xs := xs) (n := n) hlt h)
      have HS := Lib.hid (show alI (-1000000) 1000000 xs (k + 1) = (alI (-1000000) 1000000 xs k && isIn (xs.getD k 0) (-1000000) 1000000) from rfl)
      rw [hai] at HS
      rw [hxd] at HS HN
      clear hxd hx hai h1
      generalize isIn x (-1000000) 1000000 = p at *
      cases p
      · have HE := Lib.hid (HN.out rfl)
        clear HN HS
        go_wp2_with fail
        refine (X.out _).mono ?_
        rintro e w' ⟨rfl, rfl⟩
        go_wp2_with fail
        go_ret
        exact ⟨by rw [HE.out]; rfl, rfl⟩
      · have HE := Lib.hid (show alI (-1000000) 1000000 xs (k + 1) = true from HS.out)
        clear HN HS
        go_wp2_with fail
        refine (X.out _).mono ?_
        rintro e w' ⟨rfl, rfl⟩
        go_wp2_with fail
        go_round
        case rel => exact ⟨k + 1, by omega, by go_num, HE.out⟩
        case measure => simp [intOf]; omega
    · obtain rfl : k = n := by omega
      have HO := Lib.hid hai
      clear h1 hai
      go_wp2
      go_ret
      exact ⟨by rw [HO.out]; rfl, rfl⟩

theorem allNone (xs : List Int) (A : Option Addr) (n c : Nat) (w : World) (hn : n ≤ 1048577) (h1 : RdI w w.heap.size A n xs) :
    Calls Try.prog 70 #[.func (.func 72) #[] #[], .slice A n c] w fun e w' => e = .returned (.bool (alI (-1) 1000000 xs n)) ∧ w = w' := by
  go_enter Try.func70, Try.ntmps70
  go_wp2
  go_loop [9] (fun i => ∃ k : Nat, k ≤ n ∧ i = .int .i64 k ∧ alI (-1) 1000000 xs k = true) (fun i => n - (intOf i).toNat)
  case atStart => exact ⟨0, Nat.zero_le _, rfl, rfl⟩
  case round =>
    obtain ⟨k, hk, rfl, hai⟩ := hrel
    by_cases hlt : k < n
    · obtain ⟨b, o, x, rfl, hbl, hx, hc⟩ := h1.at_ hlt
      have hlt2 : (k : Int) < (n : Int) := by omega
      have X := Lib.hid (fun w => isTicksOrNone x w)
      have hxd : xs.getD k 0 = x := by rw [List.getD_eq_getElem?_getD, hx]; rfl
      have HN := Lib.hid (fun (h : isIn (xs.getD k 0) (-1) 1000000 = false) => alI_no (xs := xs) (n := n) hlt h)
      have HS := Lib.hid (show alI (-1) 1000000 xs (k + 1) = (alI (-1) 1000000 xs k && isIn (xs.getD k 0) (-1) 1000000) from rfl)
      rw [hai] at HS
      rw [hxd] at HS HN
      clear hxd hx hai h1
      generalize isIn x (-1) 1000000 = p at *
      cases p
      · have HE := Lib.hid (HN.out rfl)
        clear HN HS
        go_wp2_with fail
        refine (X.out _).mono ?_
        rintro e w' ⟨rfl, rfl⟩
        go_wp2_with fail
        go_ret
        exact ⟨by rw [HE.out]; rfl, rfl⟩
      · have HE := Lib.hid (show alI (-1) 1000000 xs (k + 1) = true from HS.out)
        clear HN HS
        go_wp2_with fail
        refine (X.out _).mono ?_
        rintro e w' ⟨rfl, rfl⟩
        go_wp2_with fail
        go_round
        case rel => exact ⟨k + 1, by omega, by go_num, HE.out⟩
        case measure => simp [intOf]; omega
    · obtain rfl : k = n := by omega
      have HO := Lib.hid hai
      clear h1 hai
      go_wp2
      go_ret
      exact ⟨by rw [HO.out]; rfl, rfl⟩

theorem rd_two (x y : Int) (W : World) : RdI (W.alloc (.cells #[.int .i64 x, .int .i64 y] 3)) (W.alloc (.cells #[.int .i64 x, .int .i64 y] 3)).heap.size (some ⟨W.heap.size, 0, none⟩) 2 [x, y] := by
  refine ⟨rfl, fun _ => ⟨W.heap.size, 0, rfl, by rw [World.size_alloc]; omega, fun j z hz => ?_⟩⟩
  rw [Nat.zero_add]
  refine ((newS 3 #[.int .i64 x, .int .i64 y] W).cell j).trans ?_
  match j, hz with
  | 0, hz => simpa using hz
  | 1, hz => simpa using hz
  | j + 2, hz => simp at hz
theorem two_ticks (x y : Int) (W : World) (g : Nat) (hb : W.heap.size = g) :
    Calls Try.prog 70 #[.func (.func 57) #[] #[], .slice (some ⟨g, 0, none⟩) 2 2] (W.alloc (.cells #[.int .i64 x, .int .i64 y] 3)) fun e w' => e = .returned (.bool (tkB x && tkB y)) ∧ Below W.heap.size W w' := by
  subst hb
  refine (allTicks [x, y] _ 2 2 _ (by omega) (rd_two x y W)).mono ?_
  rintro e w' ⟨rfl, rfl⟩
  refine ⟨?_, (Below.refl W.heap.size W).alloc (Nat.le_refl _) _⟩
  show Ending.returned (.bool ((true && isIn x 0 1000000) && isIn y 0 1000000)) = _
  rw [Bool.true_and]
  rfl
set_option maxRecDepth 100000 in
theorem isPair (x y : Int) (w : World) : Calls Try.prog 64 #[.agg #[.int .i64 x, .int .i64 y]] w fun e w' => e = .returned (.bool (tkB x && tkB y)) ∧ Below w.heap.size w w' := by
  have S0 := Lib.hid (newS 36 #[.int .i64 x, .int .i64 y] w)
  have P := Lib.hid (fun (W : World) (g : Nat) (hb : W.heap.size = g) => two_ticks x y W g hb)
  generalize (tkB x && tkB y) = p at *
  go_enter Try.func64, Try.ntmps64
  go_wp2_with fail
  generalize hW0 : w.alloc (.cells #[.int .i64 x, .int .i64 y] 36) = W0 at *
  have hsz : W0.heap.size = w.heap.size + 1 := by rw [← hW0, World.size_alloc]
  clear hW0
  refine (P.out W0 _ (by omega)).mono ?_
  rintro e w2 ⟨rfl, hb⟩
  have BX := Lib.hid (S0.out.1.trans (hb.mono (by omega)))
  clear hb
  go_wp2_with fail
  go_ret
  exact ⟨rfl, BX.out⟩

/-- All of the first k pairs have ticks. -/
def tkT (zs : List Int) : Nat → Bool
  | 0 => true
  | k + 1 => tkT zs k && (tkB (fld 2 zs k 0) && tkB (fld 2 zs k 1))
theorem tkT_at {zs : List Int} {n k : Nat} (h : tkT zs n = true) (hk : k < n) : tkB (fld 2 zs k 0) = true ∧ tkB (fld 2 zs k 1) = true := by
  induction n with
  | zero => omega
  | succ n ih =>
    rw [tkT, Bool.and_eq_true, Bool.and_eq_true] at h
    by_cases e : k = n
    · subst e; exact h.2
    · exact ih h.1 (by omega)
theorem tkT_no {zs : List Int} {n k : Nat} (hk : k < n) (h : (tkB (fld 2 zs k 0) && tkB (fld 2 zs k 1)) = false) : tkT zs n = false := by
  cases e : tkT zs n with
  | false => rfl
  | true =>
    obtain ⟨h1, h2⟩ := tkT_at e hk
    rw [h1, h2] at h; cases h
theorem tkT_ck {zs : List Int} {n : Nat} (h : tkT zs n = false) : ckT zs n = false := by
  cases e : ckT zs n with
  | false => rfl
  | true =>
    have : ∀ k, k ≤ n → tkT zs k = true := by
      intro k
      induction k with
      | zero => intro _; rfl
      | succ k ih =>
        intro hk
        have h1 := ckT_at e (show k < n by omega)
        unfold oneB at h1
        rw [Bool.and_eq_true, Bool.and_eq_true] at h1
        rw [tkT, ih (by omega), h1.1, h1.2.1]; rfl
    rw [this n (Nat.le_refl n)] at h; cases h
theorem ck_next {zs : List Int} {n k : Nat} (h : tkT zs n = true) (hk : k < n) (hc : ckT zs k = true) (hlt : k = 0 ∨ fld 2 zs (k - 1) 0 < fld 2 zs k 0) : ckT zs (k + 1) = true := by
  obtain ⟨h1, h2⟩ := tkT_at h hk
  rw [ckT, hc]
  unfold oneB
  rw [h1, h2]
  rcases hlt with e | e
  · rw [decide_eq_true e]; rfl
  · rw [decide_eq_true e]; simp
theorem ck_stop {zs : List Int} {n k : Nat} (hk : k + 1 < n) (h : ¬ fld 2 zs k 0 < fld 2 zs (k + 1) 0) : ckT zs n = false := by
  refine ckT_no hk ?_
  unfold oneB
  rw [show k + 1 - 1 = k by omega, decide_eq_false h, decide_eq_false (show ¬ k + 1 = 0 by omega)]
  simp

set_option maxRecDepth 100000 in
theorem areAllPair (zs : List Int) (A : Option Addr) (n c : Nat) (w : World) (hn : n ≤ 1048577) (h1 : RdZ 2 w w.heap.size A n zs) :
    Calls Try.prog 63 #[.func (.func 64) #[] #[], .slice A n c] w fun e w' => e = .returned (.bool (tkT zs n)) ∧ Below w.heap.size w w' := by
  go_enter Try.func63, Try.ntmps63
  go_wp2
  go_loopw [9] (fun i wr => ∃ k : Nat, k ≤ n ∧ i = .int .i64 k ∧ Below w.heap.size w wr ∧ tkT zs k = true) (fun i _ => n - (intOf i).toNat)
  case atStart => exact ⟨0, Nat.zero_le _, rfl, Below.refl _ _, rfl⟩
  case round =>
    obtain ⟨k, hk, rfl, hb, hon⟩ := hrel
    by_cases hlt : k < n
    · obtain ⟨b1, o1, rfl, l1, p0, p1⟩ := cellsP (h1.below hb (Nat.le_refl _)) hlt
      have hlt2 : (k : Int) < (n : Int) := by omega
      have X1 := Lib.hid (fun w => isPair (fld 2 zs k 0) (fld 2 zs k 1) w)
      have HS := Lib.hid (show tkT zs (k + 1) = (tkT zs k && (tkB (fld 2 zs k 0) && tkB (fld 2 zs k 1))) from rfl)
      rw [hon] at HS
      have HN := Lib.hid (fun (h : (tkB (fld 2 zs k 0) && tkB (fld 2 zs k 1)) = false) => tkT_no hlt h)
      have HB := Lib.hid (hb.alloc hb.size (.cells #[.int .i64 (fld 2 zs k 0), .int .i64 (fld 2 zs k 1)] 36))
      clear h1 hb hon
      generalize (tkB (fld 2 zs k 0) && tkB (fld 2 zs k 1)) = p at *
      generalize fld 2 zs k 0 = x at *
      generalize fld 2 zs k 1 = y at *
      cases p
      · have HE := Lib.hid (HN.out rfl)
        clear HN HS
        go_wp2_with fail
        refine (X1.out _).mono ?_
        rintro e w2 ⟨rfl, hb2⟩
        have HC := Lib.hid (HB.out.trans (hb2.mono HB.out.size))
        clear p0 p1
        go_wp2_with fail
        go_ret
        exact ⟨by rw [HE.out]; rfl, HC.out⟩
      · have HE := Lib.hid (show tkT zs (k + 1) = true from HS.out)
        clear HN HS
        go_wp2_with fail
        refine (X1.out _).mono ?_
        rintro e w2 ⟨rfl, hb2⟩
        have HC := Lib.hid (HB.out.trans (hb2.mono HB.out.size))
        clear p0 p1
        go_wp2_with fail
        go_roundw
        case rel => exact ⟨k + 1, by omega, by go_num, HC.out, HE.out⟩
        case measure => simp [intOf]; omega
    · obtain rfl : k = n := by omega
      have HO := Lib.hid hon
      clear h1 hon
      go_wp2
      go_ret
      exact ⟨by rw [HO.out]; rfl, hb⟩

set_option maxRecDepth 100000 in
set_option maxHeartbeats 4000000 in
theorem isValidPairs (zs : List Int) (A : Option Addr) (n c : Nat) (w : World) (hc : n ≤ c) (hn : n ≤ 1048577) (h1 : RdZ 2 w w.heap.size A n zs) :
    Calls Try.prog 20 #[.slice A n c] w fun e w' => e = .returned (.bool (ckB zs n)) ∧ Below w.heap.size w w' := by
  by_cases hnn : 1 ≤ n ∧ n ≤ 12
  case neg =>
    have HE := Lib.hid (ckB_len (zs := zs) hnn)
    clear h1
    rcases Nat.eq_zero_or_pos n with rfl | h0
    · go_enter Try.func20, Try.ntmps20
      go_wp2_with fail
      go_ret
      exact ⟨by rw [HE.out]; rfl, Below.refl _ _⟩
    · have g1 : ¬ (n : Int) < 1 := by omega
      have g2 : 12 < (n : Int) := by omega
      clear hnn
      go_enter Try.func20, Try.ntmps20
      go_wp2_with fail
      go_ret
      exact ⟨by rw [HE.out]; rfl, Below.refl _ _⟩
  case pos =>
    obtain ⟨n1, n12⟩ := hnn
    have g1 : ¬ (n : Int) < 1 := by omega
    have g2 : ¬ 12 < (n : Int) := by omega
    have T := areAllPair zs A n c w hn h1
    have HCK := Lib.hid (show ckB zs n = ckT zs n by unfold ckB; rw [decide_eq_true (show 1 ≤ n ∧ n ≤ 12 from ⟨n1, n12⟩)]; simp)
    cases ht : tkT zs n
    · rw [ht] at T
      have HE := Lib.hid (show ckB zs n = false by rw [HCK.out]; exact tkT_ck ht)
      have T := Lib.hid T
      clear h1 ht HCK
      go_enter Try.func20, Try.ntmps20
      go_wp2_with fail
      refine T.out.mono ?_
      rintro e w2 ⟨rfl, hb⟩
      have BX := Lib.hid hb
      clear hb
      go_wp2_with fail
      go_ret
      exact ⟨by rw [HE.out]; rfl, BX.out⟩
    · rw [ht] at T
      have HNX := Lib.hid (fun k (hk : k < n) (hc : ckT zs k = true) h => ck_next ht hk hc h)
      have HST := Lib.hid (fun k (hk : k + 1 < n) (h : ¬ fld 2 zs k 0 < fld 2 zs (k + 1) 0) => (show ckB zs n = false by rw [HCK.out]; exact ck_stop hk h))
      have HEND := Lib.hid (fun (h : ckT zs n = true) => (show ckB zs n = true by rw [HCK.out, h]))
      have HR := Lib.hid h1
      have T := Lib.hid T
      obtain ⟨b, ob, rfl, hbl, -, -⟩ := cellsP h1 (show 0 < n by omega)
      obtain ⟨m, hm⟩ : ∃ m, n - 1 = m := ⟨_, rfl⟩
      have HM := Lib.hid (show n = m + 1 by omega)
      have hlow : (1 : Int) ≤ (n : Int) := by omega
      have hcapi : (n : Int) ≤ (c : Int) := by omega
      have e8 : (n : Int) - 1 = (m : Int) := by omega
      have e9 : ((n : Int) - 1).toNat = m := by omega
      have HB0 := Lib.hid (ck_next ht (show 0 < n by omega) rfl (.inl rfl))
      clear h1 ht HCK
      go_enter Try.func20, Try.ntmps20
      go_wp2_with fail
      refine T.out.mono ?_
      rintro e w2 ⟨rfl, hb⟩
      have BX := Lib.hid hb
      clear hb
      go_wp2_with fail
      · have hm0 : m = 0 := by have := HM.out; omega
        go_loopw [21] (fun i wr => ∃ k : Nat, k ≤ m ∧ i = .int .i64 k ∧ ckT zs (k + 1) = true ∧ Below w.heap.size w wr) (fun i _ => m - (intOf i).toNat)
        case atStart => exact ⟨0, Nat.zero_le _, rfl, HB0.out, BX.out⟩
        case round =>
          obtain ⟨k, hk, rfl, hck, hb⟩ := hrel
          obtain rfl : k = m := by omega
          have HQ := Lib.hid (HEND.out (by rw [HM.out]; exact hck))
          have HB := Lib.hid hb
          clear hb hck
          have hlt2 : ¬ (k : Int) < (k : Int) := by omega
          go_wp2_with fail
          go_ret
          exact ⟨by rw [HQ.out]; rfl, HB.out⟩
      · go_loopw [21] (fun i wr => ∃ k : Nat, k ≤ m ∧ i = .int .i64 k ∧ ckT zs (k + 1) = true ∧ Below w.heap.size w wr) (fun i _ => m - (intOf i).toNat)
        case atStart => exact ⟨0, Nat.zero_le _, rfl, HB0.out, BX.out⟩
        case round =>
          obtain ⟨k, hk, rfl, hck, hb⟩ := hrel
          by_cases hlt : k < m
          · have hlt2 : (k : Int) < (m : Int) := by omega
            have hlt3 : (k : Int) < (n : Int) := by have := HM.out; omega
            have hRR := HR.out.below hb (Nat.le_refl _)
            obtain ⟨b1, o1, eA, l1, p0, p1⟩ := cellsP hRR (show k < n by have := HM.out; omega)
            obtain ⟨b2, o2, eB, l2, q0, q1⟩ := cellsP hRR (show k + 1 < n by have := HM.out; omega)
            obtain ⟨rfl, rfl⟩ : b = b1 ∧ ob = o1 := by injection eA with e; injection e with e1 e2; exact ⟨e1, e2⟩
            obtain ⟨rfl, rfl⟩ : b = b2 ∧ ob = o2 := by injection eB with e; injection e with e1 e2; exact ⟨e1, e2⟩
            rw [show ob + (k + 1) * 2 = ob + 2 + k * 2 by omega] at q0 q1
            have hbw : b < wr.heap.size := Nat.lt_of_lt_of_le l1 hb.size
            have HNk := Lib.hid (fun h => HNX.out (k + 1) (by have := HM.out; omega) hck h)
            have HSk := Lib.hid (HST.out k (by have := HM.out; omega))
            rw [show k + 1 - 1 = k by omega] at HNk
            have HB := Lib.hid (hb.alloc hb.size (.cells #[.int .i64 (fld 2 zs (k + 1) 0), .int .i64 (fld 2 zs (k + 1) 1)] 36))
            clear hb hRR eA eB l1 l2 HNX HST HEND hck p1
            generalize fld 2 zs k 0 = x at *
            generalize fld 2 zs (k + 1) 0 = y at *
            generalize fld 2 zs (k + 1) 1 = z at *
            by_cases hxy : x < y
            · have HQ := Lib.hid (HNk.out (.inr hxy))
              clear HNk HSk
              go_wp2_with fail
              go_quiet (fail)
              go_wp2_with fail
              go_roundw
              case rel => exact ⟨k + 1, by omega, by go_num, HQ.out, aid.below_drewN HB.out _⟩
              case measure => simp [intOf]; omega
            · have HQ := Lib.hid (HSk.out (by omega))
              have hyx : y ≤ x := by omega
              clear HNk HSk hxy
              go_wp2_with fail
              go_quiet (fail)
              go_wp2_with fail
              go_ret
              exact ⟨by rw [HQ.out]; rfl, aid.below_drewN HB.out _⟩
          · obtain rfl : k = m := by omega
            have HQ := Lib.hid (HEND.out (by rw [HM.out]; exact hck))
            have HB := Lib.hid hb
            clear hb hck
            go_wp2_with fail
            go_ret
            exact ⟨by rw [HQ.out]; rfl, HB.out⟩
end Go.Proofs.Ytndogafihaooiaa.clki
