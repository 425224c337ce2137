/- impl's functions of chapter 10 on points and on the validity of lists: isOnGround, isTime, isArrival, isReach, absoluteOf, distanceOf, areAll at sites and at ints, slices.Index and Contains at sites, IsValidSites, SiteDistance, areArrivals. -/
import Derived.Test.YtpbopiecfnedgabSitS
import Derived.Test.YtpbopiecfnedgabSitE
import Derived.Deep.RegionHeld3
import Derived.Deep.CutRange
namespace Go.Proofs.Ytpbopiecfnedgab.siti
open Go.RowKit Go.Proofs.Ytpbopiecfnedgab.ints Go.Proofs.Ytpbopiecfnedgab.lst Go.Proofs.Ytpbopiecfnedgab.sit Go.Proofs.Ytpbopiecfnedgab.in_ Go.Proofs.Ytpbopiecfnedgab.ats Go.Proofs.Ytpbopiecfnedgab.sits

theorem isTime (x : Int) (w : World) : Calls Try.prog 87 #[.int .i64 x] w fun e w' => e = .returned (.bool (isIn x 0 100000)) ∧ w = w' := by
  by_cases h1 : 0 ≤ x
  · have g1 : decide (0 ≤ x) = true := decide_eq_true h1
    by_cases h2 : x ≤ 100000
    · have g2 : decide (x ≤ 100000) = true := decide_eq_true h2
      have e : isIn x 0 100000 = true := decide_eq_true ⟨h1, h2⟩
      rw [e]
      clear h1 h2 e
      go_enter Try.func87, Try.ntmps87
      go_wp2
      go_ret
      exact ⟨rfl, rfl⟩
    · have g2 : decide (x ≤ 100000) = false := decide_eq_false h2
      have e : isIn x 0 100000 = false := decide_eq_false (fun h => h2 h.2)
      rw [e]
      clear h1 h2 e
      go_enter Try.func87, Try.ntmps87
      go_wp2
      go_ret
      exact ⟨rfl, rfl⟩
  · have g1 : decide (0 ≤ x) = false := decide_eq_false h1
    have e : isIn x 0 100000 = false := decide_eq_false (fun h => h1 h.1)
    rw [e]
    clear h1 e
    go_enter Try.func87, Try.ntmps87
    go_wp2
    go_ret
    exact ⟨rfl, rfl⟩

theorem isOnGround (x y : Int) (w : World) : Calls Try.prog 66 #[.agg #[.int .i64 x, .int .i64 y]] w fun e w' => e = .returned (.bool (onB x y)) ∧ Below w.heap.size w w' := by
  have E : onB x y = (decide (0 ≤ x) && (decide (x ≤ 30) && (decide (0 ≤ y) && decide (y ≤ 30)))) := by
    unfold onB isIn
    rw [Bool.eq_iff_iff]
    simp only [Bool.and_eq_true, decide_eq_true_eq]
    omega
  rw [E]
  clear E
  generalize h1 : decide (0 ≤ x) = p1
  generalize h2 : decide (x ≤ 30) = p2
  generalize h3 : decide (0 ≤ y) = p3
  generalize h4 : decide (y ≤ 30) = p4
  cases p1
  · go_enter Try.func66, Try.ntmps66
    go_wp2_with fail
    go_ret
    exact ⟨rfl, (Below.refl _ _).alloc (Nat.le_refl _) _⟩
  · cases p2
    · go_enter Try.func66, Try.ntmps66
      go_wp2_with fail
      go_ret
      exact ⟨rfl, (Below.refl _ _).alloc (Nat.le_refl _) _⟩
    · cases p3
      · go_enter Try.func66, Try.ntmps66
        go_wp2_with fail
        go_ret
        exact ⟨rfl, (Below.refl _ _).alloc (Nat.le_refl _) _⟩
      · cases p4
        all_goals
          go_enter Try.func66, Try.ntmps66
          go_wp2_with fail
          go_ret
          exact ⟨rfl, (Below.refl _ _).alloc (Nat.le_refl _) _⟩

theorem absoluteOf (x : Int) (w : World) (hx : -8000000 ≤ x) (hx2 : x ≤ 8000000) :
    Calls Try.prog 94 #[.int .i64 x] w fun e w' => e = .returned (.int .i64 (x.natAbs : Int)) ∧ w = w' := by
  by_cases h : x < 0
  · have hm : x < -x := by omega
    rw [show (x.natAbs : Int) = -x by omega]
    go_enter Try.func94, Try.ntmps94
    go_wp2
    all_goals
      go_ret
      first | exact ⟨rfl, rfl⟩ | (exfalso; omega)
  · have hm : ¬ x < -x := by omega
    have g : decide (x < -x) = false := decide_eq_false hm
    rw [show (x.natAbs : Int) = x by omega]
    go_enter Try.func94, Try.ntmps94
    go_wp2
    all_goals
      go_ret
      first | exact ⟨rfl, rfl⟩ | (exfalso; omega)

theorem distanceOf (x y a b : Int) (h1 : onB x y = true) (h2 : onB a b = true) (w : World) :
    Calls Try.prog 97 #[.agg #[.int .i64 x, .int .i64 y], .agg #[.int .i64 a, .int .i64 b]] w fun e w' => e = .returned (.int .i64 (dist x y a b)) ∧ Below w.heap.size w w' := by
  obtain ⟨p0, p1, p2, p3⟩ := onB_yes h1
  obtain ⟨q0, q1, q2, q3⟩ := onB_yes h2
  have G1 := Lib.hid (fun w d => aid.quiet_left (absoluteOf (x - a) (World.drewN w d) (by omega) (by omega)))
  have G2 := Lib.hid (fun w d => aid.quiet_left (absoluteOf (y - b) (World.drewN w d) (by omega) (by omega)))
  have e1 : IntKind.i64.wrap (x - a) = x - a := IntWalk.i64_in _ (by omega)
  have e2 : IntKind.i64.wrap (y - b) = y - b := IntWalk.i64_in _ (by omega)
  have E0 := Lib.hid (show Below w.heap.size w ((w.alloc (.cells #[.int .i64 x, .int .i64 y] 32)).alloc (.cells #[.int .i64 a, .int .i64 b] 32)) from ((Below.refl _ _).alloc (Nat.le_refl _) _).alloc (by rw [World.size_alloc]; omega) _)
  unfold dist
  have u0 : (0 : Int) ≤ ((x - a).natAbs : Int) := by omega
  have u1 : ((x - a).natAbs : Int) ≤ 30 := by omega
  have v0 : (0 : Int) ≤ ((y - b).natAbs : Int) := by omega
  have v1 : ((y - b).natAbs : Int) ≤ 30 := by omega
  generalize ((x - a).natAbs : Int) = u at *
  generalize ((y - b).natAbs : Int) = v at *
  have e3 : IntKind.i64.wrap (u + v) = u + v := IntWalk.i64_in _ (by omega)
  clear h1 h2
  go_enter Try.func97, Try.ntmps97
  go_wp2_with fail
  go_quiet ((go_at_call 94; first | (with_reducible exact G1.out _ _) | (with_reducible exact G2.out _ _)))
  go_wp2_with fail
  go_ret
  exact ⟨rfl, aid.below_drewN E0.out _⟩

set_option maxRecDepth 100000 in
set_option maxHeartbeats 1000000 in
theorem areAllSite (zs : List Int) (A : Option Addr) (n c : Nat) (w : World) (hn : n ≤ 1048577) (h1 : RdZ 2 w w.heap.size A n zs) :
    Calls Try.prog 92 #[.func (.func 66) #[] #[], .slice A n c] w fun e w' => e = .returned (.bool (onT zs n)) ∧ Below w.heap.size w w' := by
  go_enter Try.func92, Try.ntmps92
  go_wp2
  go_loopw [9] (fun i wr => ∃ k : Nat, k ≤ n ∧ i = .int .i64 k ∧ Below w.heap.size w wr ∧ onT zs k = true) (fun i _ => n - (intOf i).toNat)
  case atStart => exact ⟨0, Nat.zero_le _, rfl, Below.refl _ _, rfl⟩
  case round =>
    obtain ⟨k, hk, rfl, hb, hon⟩ := hrel
    by_cases hlt : k < n
    · obtain ⟨b1, o1, rfl, l1, p0, p1⟩ := cells2 (h1.below hb (Nat.le_refl _)) hlt
      have hlt2 : (k : Int) < (n : Int) := by omega
      have X1 := Lib.hid (fun w => isOnGround (fld 2 zs k 0) (fld 2 zs k 1) w)
      have HS := Lib.hid (show onT zs (k + 1) = (onT zs k && onB (fld 2 zs k 0) (fld 2 zs k 1)) from rfl)
      rw [hon] at HS
      have HN := Lib.hid (fun (h : onB (fld 2 zs k 0) (fld 2 zs k 1) = false) => onT_no hlt h)
      have HB := Lib.hid (hb.alloc hb.size (.cells #[.int .i64 (fld 2 zs k 0), .int .i64 (fld 2 zs k 1)] 32))
      clear h1 hb hon
      generalize onB (fld 2 zs k 0) (fld 2 zs k 1) = p at *
      generalize fld 2 zs k 0 = x at *
      generalize fld 2 zs k 1 = y at *
      cases p
      · have HE := Lib.hid (HN.out rfl)
        clear HN HS
        go_wp2_with fail
        refine (X1.out _).mono ?_
        rintro e w2 ⟨rfl, hb2⟩
        have HC := Lib.hid (HB.out.trans (hb2.mono HB.out.size))
        clear p0 p1
        go_wp2_with fail
        go_ret
        exact ⟨by rw [HE.out]; rfl, HC.out⟩
      · have HE := Lib.hid (show onT zs (k + 1) = true from HS.out)
        clear HN HS
        go_wp2_with fail
        refine (X1.out _).mono ?_
        rintro e w2 ⟨rfl, hb2⟩
        have HC := Lib.hid (HB.out.trans (hb2.mono HB.out.size))
        clear p0 p1
        go_wp2_with fail
        go_roundw
        case rel => exact ⟨k + 1, by omega, by go_num, HC.out, HE.out⟩
        case measure => simp [intOf]; omega
    · obtain rfl : k = n := by omega
      have HO := Lib.hid hon
      clear h1 hon
      go_wp2
      go_ret
      exact ⟨by rw [HO.out]; rfl, hb⟩

theorem isArrival (x : Int) (w : World) : Calls Try.prog 106 #[.int .i64 x] w fun e w' => e = .returned (.bool (isIn x 0 100060)) ∧ w = w' := by
  by_cases h1 : 0 ≤ x
  · have g1 : decide (0 ≤ x) = true := decide_eq_true h1
    by_cases h2 : x ≤ 100060
    · have g2 : decide (x ≤ 100060) = true := decide_eq_true h2
      have e : isIn x 0 100060 = true := decide_eq_true ⟨h1, h2⟩
      rw [e]
      clear h1 h2 e
      go_enter Try.func106, Try.ntmps106
      go_wp2
      go_ret
      exact ⟨rfl, rfl⟩
    · have g2 : decide (x ≤ 100060) = false := decide_eq_false h2
      have e : isIn x 0 100060 = false := decide_eq_false (fun h => h2 h.2)
      rw [e]
      clear h1 h2 e
      go_enter Try.func106, Try.ntmps106
      go_wp2
      go_ret
      exact ⟨rfl, rfl⟩
  · have g1 : decide (0 ≤ x) = false := decide_eq_false h1
    have e : isIn x 0 100060 = false := decide_eq_false (fun h => h1 h.1)
    rw [e]
    clear h1 e
    go_enter Try.func106, Try.ntmps106
    go_wp2
    go_ret
    exact ⟨rfl, rfl⟩
set_option maxHeartbeats 1000000 in
theorem areAllInt (xs : List Int) (A : Option Addr) (n c : Nat) (w : World) (hn : n ≤ 1048577) (h1 : RdI w w.heap.size A n xs) :
    Calls Try.prog 105 #[.func (.func 106) #[] #[], .slice A n c] w fun e w' => e = .returned (.bool (aiT xs n)) ∧ w = w' := by
  go_enter Try.func105, Try.ntmps105
  go_wp2
  go_loop [9] (fun i => ∃ k : Nat, k ≤ n ∧ i = .int .i64 k ∧ aiT xs k = true) (fun i => n - (intOf i).toNat)
  case atStart => exact ⟨0, Nat.zero_le _, rfl, rfl⟩
  case round =>
    obtain ⟨k, hk, rfl, hai⟩ := hrel
    by_cases hlt : k < n
    · obtain ⟨b, o, x, rfl, hbl, hx, hc⟩ := h1.at_ hlt
      have hlt2 : (k : Int) < (n : Int) := by omega
      have X := Lib.hid (fun w => isArrival x w)
      have hxd : xs.getD k 0 = x := by rw [List.getD_eq_getElem?_getD, hx]; rfl
      have HN := Lib.hid (fun (h : isIn (xs.getD k 0) 0 100060 = false) => aiT_no (xs := xs) (n := n) hlt h)
      have HS := Lib.hid (show aiT xs (k + 1) = (aiT xs k && isIn (xs.getD k 0) 0 100060) from rfl)
      rw [hai] at HS
      rw [hxd] at HS HN
      clear hxd hx hai h1
      generalize isIn x 0 100060 = p at *
      cases p
      · have HE := Lib.hid (HN.out rfl)
        clear HN HS
        go_wp2_with fail
        refine (X.out _).mono ?_
        rintro e w' ⟨rfl, rfl⟩
        go_wp2_with fail
        go_ret
        exact ⟨by rw [HE.out]; rfl, rfl⟩
      · have HE := Lib.hid (show aiT xs (k + 1) = true from HS.out)
        clear HN HS
        go_wp2_with fail
        refine (X.out _).mono ?_
        rintro e w' ⟨rfl, rfl⟩
        go_wp2_with fail
        go_round
        case rel => exact ⟨k + 1, by omega, by go_num, HE.out⟩
        case measure => simp [intOf]; omega
    · obtain rfl : k = n := by omega
      have HO := Lib.hid hai
      clear h1 hai
      go_wp2
      go_ret
      exact ⟨by rw [HO.out]; rfl, rfl⟩

/-- Is (x, y) one of the first k sites? -/
def hasB (zs : List Int) (x y : Int) : Nat → Bool
  | 0 => false
  | k + 1 => hasB zs x y k || decide (x = fld 2 zs k 0 ∧ y = fld 2 zs k 1)
theorem hasB_new (zs : List Int) (i k : Nat) : newT zs i k = !hasB zs (fld 2 zs i 0) (fld 2 zs i 1) k := by
  induction k with
  | zero => rfl
  | succ k ih =>
    rw [newT, hasB, ih, Bool.not_or]
    congr 2
    unfold sameB
    rw [decide_eq_decide]
    exact ⟨fun h => ⟨h.1.symm, h.2.symm⟩, fun h => ⟨h.1.symm, h.2.symm⟩⟩
theorem hasB_at {zs : List Int} {x y : Int} {n k : Nat} (hk : k < n) (h : x = fld 2 zs k 0 ∧ y = fld 2 zs k 1) : hasB zs x y n = true := by
  induction n with
  | zero => omega
  | succ n ih =>
    rw [hasB]
    by_cases e : k = n
    · subst e; rw [decide_eq_true h]; simp
    · rw [ih (by omega)]; rfl

set_option maxRecDepth 100000 in
set_option maxHeartbeats 1000000 in
theorem indexS (zs : List Int) (x y : Int) (A : Option Addr) (n c : Nat) (w : World) (hn : n ≤ 1048577) (h1 : RdZ 2 w w.heap.size A n zs) :
    Calls Try.prog 116 #[.slice A n c, .agg #[.int .i64 x, .int .i64 y]] w fun e w' => (∃ j : Int, e = .returned (.int .i64 j) ∧ decide (0 ≤ j) = hasB zs x y n) ∧ Below w.heap.size w w' := by
  have S0 := Lib.hid (newS 32 #[.int .i64 x, .int .i64 y] w)
  go_enter Try.func116, Try.ntmps116
  go_wp2
  generalize w.alloc (.cells #[.int .i64 x, .int .i64 y] 32) = W at *
  go_loopw [8] (fun i wr => ∃ k : Nat, k ≤ n ∧ i = .int .i64 k ∧ (∃ d, wr = W.drewN d) ∧ hasB zs x y k = false) (fun i _ => n - (intOf i).toNat)
  case atStart => exact ⟨0, Nat.zero_le _, rfl, ⟨0, rfl⟩, rfl⟩
  case round =>
    obtain ⟨k, hk, rfl, ⟨d, rfl⟩, hno⟩ := hrel
    by_cases hlt : k < n
    · obtain ⟨b1, o1, rfl, l1, p0, p1⟩ := cells2 (h1.below S0.out.1 (Nat.le_refl _)) hlt
      have hlt2 : (k : Int) < (n : Int) := by omega
      have c0 := S0.out.cell 0
      have c1 := S0.out.cell 1
      have HS := Lib.hid (show hasB zs x y (k + 1) = (hasB zs x y k || decide (x = fld 2 zs k 0 ∧ y = fld 2 zs k 1)) from rfl)
      rw [hno] at HS
      have HY := Lib.hid (fun (h : x = fld 2 zs k 0 ∧ y = fld 2 zs k 1) => hasB_at hlt h)
      clear h1 hno
      generalize fld 2 zs k 0 = u at *
      generalize fld 2 zs k 1 = v at *
      by_cases ex : x = u
      · have ex1 : (x == u) = true := by simpa using ex
        by_cases ey : y = v
        · have ey1 : (y == v) = true := by simpa using ey
          have HE := Lib.hid (HY.out ⟨ex, ey⟩)
          have HK := Lib.hid (show decide ((0 : Int) ≤ (k : Int)) = true from decide_eq_true (by omega))
          clear HY HS ex ey
          go_wp2_with fail
          go_quiet (fail)
          go_wp2_with fail
          go_ret
          exact ⟨⟨k, rfl, by rw [HE.out, HK.out]⟩, aid.below_drewN (aid.below_drewN S0.out.1 _) _⟩
        · have ey1 : (y == v) = false := by simpa using ey
          have HE := Lib.hid (show hasB zs x y (k + 1) = false by rw [HS.out, decide_eq_false (fun h => ey h.2)]; rfl)
          clear HY HS ex ey
          go_wp2_with fail
          go_quiet (fail)
          go_wp2_with fail
          go_roundw
          case rel => exact ⟨k + 1, by omega, by go_num, ⟨_, by first | rfl | rw [World.drewN_drewN]⟩, HE.out⟩
          case measure => simp [intOf]; omega
      · have ex1 : (x == u) = false := by simpa using ex
        have HE := Lib.hid (show hasB zs x y (k + 1) = false by rw [HS.out, decide_eq_false (fun h => ex h.1)]; rfl)
        clear HY HS ex
        go_wp2_with fail
        go_quiet (fail)
        go_wp2_with fail
        go_roundw
        case rel => exact ⟨k + 1, by omega, by go_num, ⟨_, by first | rfl | rw [World.drewN_drewN]⟩, HE.out⟩
        case measure => simp [intOf]; omega
    · obtain rfl : k = n := by omega
      have HO := Lib.hid hno
      clear h1 hno
      go_wp2_with fail
      go_ret
      exact ⟨⟨-1, rfl, by rw [HO.out]; rfl⟩, aid.below_drewN S0.out.1 _⟩

theorem containsS (zs : List Int) (x y : Int) (A : Option Addr) (n c : Nat) (w : World) (hn : n ≤ 1048577) (h1 : RdZ 2 w w.heap.size A n zs) :
    Calls Try.prog 111 #[.slice A n c, .agg #[.int .i64 x, .int .i64 y]] w fun e w' => e = .returned (.bool (hasB zs x y n)) ∧ Below w.heap.size w w' := by
  have S0 := Lib.hid (newS 32 #[.int .i64 x, .int .i64 y] w)
  have H := Lib.hid (fun w' (hb : Below w.heap.size w w') => indexS zs x y A n c w' hn (h1.next hb))
  clear h1
  generalize hasB zs x y n = p at *
  go_enter Try.func111, Try.ntmps111
  go_wp2_with fail
  generalize w.alloc (.cells #[.int .i64 x, .int .i64 y] 32) = W at *
  refine (H.out W S0.out.1).mono ?_
  rintro e w1 ⟨⟨j, rfl, hj⟩, hb⟩
  have T := Lib.hid (S0.out.old hb)
  cases p
  all_goals
    go_wp2_with fail
    go_ret
    exact ⟨rfl, T.out.1⟩

theorem rd_two (x y a b : Int) (W : World) : RdZ 2 (W.alloc (.cells #[.int .i64 x, .int .i64 y, .int .i64 a, .int .i64 b] 32)) (W.alloc (.cells #[.int .i64 x, .int .i64 y, .int .i64 a, .int .i64 b] 32)).heap.size (some ⟨W.heap.size, 0, none⟩) 2 [x, y, a, b] := by
  refine ⟨rfl, fun _ => ⟨W.heap.size, 0, rfl, by rw [World.size_alloc]; omega, fun j z hz => ?_⟩⟩
  rw [Nat.zero_add]
  refine ((newS 32 #[.int .i64 x, .int .i64 y, .int .i64 a, .int .i64 b] W).cell j).trans ?_
  match j, hz with
  | 0, hz => simpa using hz
  | 1, hz => simpa using hz
  | 2, hz => simpa using hz
  | 3, hz => simpa using hz
  | j + 4, hz => simp at hz
theorem areAll_two (x y a b : Int) (W : World) (g : Nat) (hb : W.heap.size = g) :
    Calls Try.prog 92 #[.func (.func 66) #[] #[], .slice (some ⟨g, 0, none⟩) 2 2] (W.alloc (.cells #[.int .i64 x, .int .i64 y, .int .i64 a, .int .i64 b] 32)) fun e w' => e = .returned (.bool (sdB x y a b)) ∧ Below W.heap.size W w' := by
  subst hb
  refine (areAllSite [x, y, a, b] _ 2 2 _ (by omega) (rd_two x y a b W)).mono ?_
  rintro e w' ⟨rfl, hb⟩
  have h0 := (Below.refl W.heap.size W).alloc (Nat.le_refl _) (.cells #[.int .i64 x, .int .i64 y, .int .i64 a, .int .i64 b] 32)
  refine ⟨?_, h0.trans (hb.mono h0.size)⟩
  show Ending.returned (.bool ((true && onB x y) && onB a b)) = _
  rw [Bool.true_and]
  rfl

set_option maxRecDepth 100000 in
theorem siteDistance (x y a b : Int) (w : World) :
    Calls Try.prog 50 #[.agg #[.int .i64 x, .int .i64 y], .agg #[.int .i64 a, .int .i64 b]] w fun e w' => e = .returned (.tuple #[.int .i64 (sdV x y a b), .bool (sdB x y a b)]) ∧ Below w.heap.size w w' := by
  have P := Lib.hid (fun (W : World) (g : Nat) (hb : W.heap.size = g) => areAll_two x y a b W g hb)
  have HD := Lib.hid (fun h1 h2 w => distanceOf x y a b h1 h2 w)
  have S0 := Lib.hid (newS 32 #[.int .i64 x, .int .i64 y] w)
  have T0 := Lib.hid ((newS 32 #[.int .i64 x, .int .i64 y] w).next 32 #[.int .i64 a, .int .i64 b])
  have S1 := Lib.hid (S0.out.alloc (.cells #[.int .i64 a, .int .i64 b] 32))
  rw [World.size_alloc] at T0
  have HZ := Lib.hid (show ((w.alloc (.cells #[.int .i64 x, .int .i64 y] 32)).alloc (.cells #[.int .i64 a, .int .i64 b] 32)).heap.size = w.heap.size + 1 + 1 by rw [World.size_alloc, World.size_alloc])
  clear S0
  unfold sdV
  cases hp : sdB x y a b
  · rw [hp] at P
    clear hp HD
    go_enter Try.func50, Try.ntmps50
    go_wp2_with fail
    generalize (w.alloc (.cells #[.int .i64 x, .int .i64 y] 32)).alloc (.cells #[.int .i64 a, .int .i64 b] 32) = W at *
    refine (P.out W _ HZ.out).mono ?_
    rintro e w1 ⟨rfl, hb1⟩
    have T1 := Lib.hid (T0.out.old hb1)
    clear T0 S1
    go_wp2_with fail
    go_ret2
    exact ⟨rfl, T1.out.1⟩
  · rw [hp] at P
    unfold sdB at hp
    rw [Bool.and_eq_true] at hp
    have D := Lib.hid (fun w => HD.out hp.1 hp.2 w)
    generalize dist x y a b = d at *
    clear hp HD
    go_enter Try.func50, Try.ntmps50
    go_wp2_with fail
    generalize (w.alloc (.cells #[.int .i64 x, .int .i64 y] 32)).alloc (.cells #[.int .i64 a, .int .i64 b] 32) = W at *
    refine (P.out W _ HZ.out).mono ?_
    rintro e w1 ⟨rfl, hb1⟩
    have T1 := Lib.hid (T0.out.old hb1)
    have S2 := Lib.hid (S1.out.old hb1)
    have c0 := T1.out.cell 0
    have c1 := T1.out.cell 1
    have c2 := S2.out.cell 0
    have c3 := S2.out.cell 1
    clear T0 S1
    go_wp2_with fail
    clear c0 c1 c2 c3
    refine (D.out w1).mono ?_
    rintro e w3 ⟨rfl, hb3⟩
    have T3 := Lib.hid (T1.out.old hb3)
    go_wp2_with fail
    go_ret2
    exact ⟨rfl, T3.out.1⟩

/- The first k sites of a list. -/
theorem fld_take {zs : List Int} {k j i : Nat} (hj : j < k) (hi : i < 2) : fld 2 (zs.take (k * 2)) j i = fld 2 zs j i := by
  unfold fld
  rw [List.getD_eq_getElem?_getD, List.getD_eq_getElem?_getD, List.getElem?_take, if_pos (by omega)]
theorem rd_take {w : World} {B n k : Nat} {A : Option Addr} {zs : List Int} (h : RdZ 2 w B A n zs) (hk : k ≤ n) : RdZ 2 w B A k (zs.take (k * 2)) :=
  ⟨by rw [List.length_take, h.1]; omega, fun h0 => by
    obtain ⟨b, o, e, hb, hc⟩ := h.2 (by omega)
    refine ⟨b, o, e, hb, fun j x hx => hc j x ?_⟩
    have hj := (List.getElem?_eq_some_iff.1 hx).1
    rw [List.length_take] at hj
    rwa [List.getElem?_take, if_pos (by omega)] at hx⟩
theorem hasB_take {zs : List Int} {x y : Int} {n k : Nat} (hk : k ≤ n) : hasB (zs.take (n * 2)) x y k = hasB zs x y k := by
  induction k with
  | zero => rfl
  | succ k ih => rw [hasB, hasB, ih (by omega), fld_take (by omega) (by omega), fld_take (by omega) (by omega)]
theorem onT_take {zs : List Int} {n k : Nat} (hk : k ≤ n) : onT (zs.take (n * 2)) k = onT zs k := by
  induction k with
  | zero => rfl
  | succ k ih => rw [onT, onT, ih (by omega), fld_take (by omega) (by omega), fld_take (by omega) (by omega)]
theorem ds_take {zs : List Int} {x y : Int} {n k : Nat} (hk : k < n) : ds (zs.take (n * 2)) x y k = ds zs x y k := by
  unfold ds
  rw [fld_take hk (by omega), fld_take hk (by omega)]
theorem dsL_take {zs : List Int} {x y : Int} {n : Nat} : dsL (zs.take (n * 2)) x y n = dsL zs x y n := by
  unfold dsL
  exact List.map_congr_left fun k hk => ds_take (List.mem_range.mp hk)

set_option maxRecDepth 100000 in
set_option maxHeartbeats 2000000 in
theorem areDifferent (zs : List Int) (A : Option Addr) (n c : Nat) (w : World) (hc : n ≤ c) (hn : n ≤ 1048577) (h1 : RdZ 2 w w.heap.size A n zs) :
    Calls Try.prog 93 #[.slice A n c] w fun e w' => e = .returned (.bool (difT zs n)) ∧ Below w.heap.size w w' := by
  have HR := Lib.hid h1
  clear h1
  go_enter Try.func93, Try.ntmps93
  go_wp2_with fail
  go_loopw [7] (fun i wr => ∃ k : Nat, k ≤ n ∧ i = .int .i64 k ∧ Below w.heap.size w wr ∧ difT zs k = true) (fun i _ => n - (intOf i).toNat)
  case atStart => exact ⟨0, Nat.zero_le _, rfl, Below.refl _ _, rfl⟩
  case round =>
    obtain ⟨k, hk, rfl, hb, hdif⟩ := hrel
    by_cases hlt : k < n
    · obtain ⟨b1', o1, rfl, l1, p0, p1⟩ := cells2 (HR.out.below hb (Nat.le_refl _)) hlt
      have hlt2 : (k : Int) < (n : Int) := by omega
      have hkc : (k : Int) ≤ (c : Int) := by omega
      have HRk := Lib.hid (show RdZ 2 wr wr.heap.size (some ⟨b1', o1, none⟩) k (zs.take (k * 2)) from rd_take (HR.out.next hb) hk)
      have S0 := Lib.hid (newS 32 #[.int .i64 (fld 2 zs k 0), .int .i64 (fld 2 zs k 1)] wr)
      have HB := Lib.hid hb
      have HE := Lib.hid (hasB_new zs k k)
      have HT := Lib.hid (show hasB (zs.take (k * 2)) (fld 2 zs k 0) (fld 2 zs k 1) k = _ from hasB_take (Nat.le_refl _))
      have HNo := Lib.hid (fun (h : newT zs k k = false) => difT_no hlt h)
      have HYe := Lib.hid (show difT zs (k + 1) = (difT zs k && newT zs k k) from rfl)
      rw [hdif] at HYe
      clear hb hdif
      generalize fld 2 zs k 0 = x at *
      generalize fld 2 zs k 1 = y at *
      go_upto_region 4 with fail
      have HCb := Lib.hid (S0.out.1)
      generalize wr.alloc (.cells #[.int .i64 x, .int .i64 y] 32) = V at *
      have CS := Lib.hid (show ∀ WZ : World, Below V.heap.size V WZ → WZ.cell? ⟨wr.heap.size, 0, none⟩ = some (.int .i64 x) ∧ WZ.cell? ⟨wr.heap.size, 1, none⟩ = some (.int .i64 y) from fun WZ hz => And.intro (site.at_cell (S0.out.old hz) 0 (.int .i64 x) rfl) (site.at_cell (S0.out.old hz) 1 (.int .i64 y) rfl))
      clear p0 p1
      have KC := Lib.hid (fun (w' : World) (hb : Below V.heap.size V w') => containsS (zs.take (k * 2)) x y (some ⟨b1', o1, none⟩) k c w' (by omega) (HRk.out.next (HCb.out.trans (hb.mono HCb.out.size))))
      rw [HT.out] at KC
      go_region_held3 (fun w' => w'.cell? ⟨wr.heap.size, 0, none⟩ = some (.int .i64 x) ∧ w'.cell? ⟨wr.heap.size, 1, none⟩ = some (.int .i64 y)) (first
        | exact CS.out _ (Below.refl V.heap.size V).drew
        | exact CS.out _ (by assumption)
        | go_keep) (first
        | (go_at_call 111; (with_reducible refine (KC.out _ (by first | exact (Below.refl V.heap.size V).drew | assumption)).mono ?_); rintro e w' ⟨rfl, hb⟩
           have hbl := site.bl_next (V := V) (by first | exact (Below.refl V.heap.size V).drew | assumption) hb
           clear hb))
      all_goals (
        have BX := Lib.hid (HB.out.trans ((HCb.out.trans ((by assumption : Below V.heap.size V _).mono HCb.out.size)).mono HB.out.size))
        rw [HE.out] at HYe HNo
        generalize hasB zs x y k = p at *
        cases p
        · have HZ := Lib.hid (show difT zs (k + 1) = true from HYe.out)
          clear HYe HNo HE HT KC CS
          go_wp2_with fail
          go_roundw
          case rel => exact ⟨k + 1, by omega, by go_num, BX.out, HZ.out⟩
          case measure => simp [intOf]; omega
        · have HZ := Lib.hid (HNo.out rfl)
          clear HYe HNo HE HT KC CS
          go_wp2_with fail
          go_ret
          exact ⟨by rw [HZ.out]; rfl, BX.out⟩)
    · obtain rfl : k = n := by omega
      have HZ := Lib.hid hdif
      have HB := Lib.hid hb
      clear hb hdif HR
      go_wp2_with fail
      go_ret
      exact ⟨by rw [HZ.out]; rfl, HB.out⟩

set_option maxRecDepth 100000 in
set_option maxHeartbeats 2000000 in
theorem isValidSites (zs : List Int) (A : Option Addr) (n c : Nat) (w : World) (hc : n ≤ c) (hn : n ≤ 1048577) (h1 : RdZ 2 w w.heap.size A n zs) :
    Calls Try.prog 45 #[.slice A n c] w fun e w' => e = .returned (.bool (siB zs n)) ∧ Below w.heap.size w w' := by
  by_cases a1 : n < 1
  · have a2 : ¬ 1 ≤ (n : Int) := by omega
    have a3 : ¬ 1 ≤ n := by omega
    rw [siB_len (by omega)]
    clear h1
    go_enter Try.func45, Try.ntmps45
    go_wp2_with fail
    go_ret
    exact ⟨rfl, Below.refl _ _⟩
  have a2 : 1 ≤ (n : Int) := by omega
  have a3 : 1 ≤ n := by omega
  by_cases b1 : 5 < n
  · have b2 : ¬ (n : Int) ≤ 5 := by omega
    have b3 : ¬ n ≤ 5 := by omega
    rw [siB_len (by omega)]
    clear h1
    go_enter Try.func45, Try.ntmps45
    go_wp2_with fail
    go_ret
    exact ⟨rfl, Below.refl _ _⟩
  have b2 : (n : Int) ≤ 5 := by omega
  have b3 : n ≤ 5 := by omega
  have H := areAllSite zs A n c w hn h1
  have HD := Lib.hid (fun W (hb : Below w.heap.size w W) => areDifferent zs A n c W hc hn (h1.next hb))
  cases ho : onT zs n
  · rw [ho] at H
    have H := Lib.hid H
    rw [siB_on ho]
    clear h1 ho HD
    go_enter Try.func45, Try.ntmps45
    go_wp2_with fail
    refine H.out.mono ?_
    rintro e w1 ⟨rfl, hb⟩
    go_wp2_with fail
    go_ret
    exact ⟨rfl, hb⟩
  rw [ho] at H
  have H := Lib.hid H
  have HS := Lib.hid (show siB zs n = difT zs n from by
    cases hd : difT zs n
    · exact siB_dif hd
    · exact siB_of (by omega) (by omega) ho hd)
  clear h1 ho
  generalize difT zs n = q at *
  go_enter Try.func45, Try.ntmps45
  go_wp2_with fail
  refine H.out.mono ?_
  rintro e w1 ⟨rfl, hb⟩
  have HB := Lib.hid hb
  go_wp2_with fail
  refine (HD.out _ hb).mono ?_
  rintro e w2 ⟨rfl, hb2⟩
  have HB2 := Lib.hid (HB.out.trans (hb2.mono HB.out.size))
  clear hb hb2
  go_wp2_with fail
  go_ret
  exact ⟨by rw [HS.out]; rfl, HB2.out⟩

set_option maxRecDepth 100000 in
theorem areArrivals (zs xs : List Int) (A B : Option Addr) (n c m d : Nat) (w : World) (hc : n ≤ c) (hn : n ≤ 1048577) (hm : m ≤ 1048577) (h1 : RdZ 2 w w.heap.size A n zs) (h2 : RdI w w.heap.size B m xs) :
    Calls Try.prog 65 #[.slice A n c, .slice B m d] w fun e w' => e = .returned (.bool (arB zs n xs m)) ∧ Below w.heap.size w w' := by
  have G := isValidSites zs A n c w hc hn h1
  have KA := Lib.hid (fun (w' : World) (hb : Below w.heap.size w w') => areAllInt xs B m d w' hm (h2.next hb))
  clear h1 h2
  cases hg : siB zs n
  · rw [hg] at G
    have G := Lib.hid G
    rw [arB_si hg]
    clear hg KA
    go_enter Try.func65, Try.ntmps65
    go_wp2_with fail
    refine G.out.mono ?_
    rintro e w1 ⟨rfl, hb⟩
    go_wp2_with fail
    go_ret
    exact ⟨rfl, hb⟩
  rw [hg] at G
  have G := Lib.hid G
  by_cases hmn : m = n
  · have q1 : ((m : Int) == (n : Int)) = true := beq_iff_eq.mpr (by omega)
    have HE : arB zs n xs m = aiT xs m := by unfold arB; rw [hg, decide_eq_true hmn]; simp
    rw [HE]
    clear hg hmn HE
    generalize aiT xs m = p at *
    go_enter Try.func65, Try.ntmps65
    go_wp2_with fail
    refine G.out.mono ?_
    rintro e w1 ⟨rfl, hb⟩
    go_wp2_with fail
    refine (KA.out w1 hb).mono ?_
    rintro e w2 ⟨rfl, rfl⟩
    go_wp2_with fail
    go_ret
    exact ⟨rfl, hb⟩
  · have q1 : ((m : Int) == (n : Int)) = false := beq_eq_false_iff_ne.mpr (by omega)
    rw [arB_ne hmn]
    clear hg hmn KA
    go_enter Try.func65, Try.ntmps65
    go_wp2_with fail
    refine G.out.mono ?_
    rintro e w1 ⟨rfl, hb⟩
    go_wp2_with fail
    go_ret
    exact ⟨rfl, hb⟩
end Go.Proofs.Ytpbopiecfnedgab.siti
